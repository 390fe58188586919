-- eB
import Derived.Test.YtodaapcohdpenaaGreatGSq
import Derived.Test.YtodaapcohdpenaaGreatGTabP
import Derived.Maps.OwnSet
namespace Go.Proofs.YtodaapcohdpenaaGreat
open Go.RowKit
set_option linter.unusedSimpArgs false
set_option linter.unusedVariables false
set_option maxHeartbeats 8000000
set_option maxRecDepth 100000
def Cx (w:World) (A:Option Addr) (n cap:Nat) (t:List au) (o:aX) (p:Nat) (th:Bool):Prop:=
 n≤cap∧gW w A n t∧iO t∧Bo o∧Ct t o.key p th
theorem Cx.below {w W:World} {A:Option Addr} {n cap p:Nat} {t:List au} {o:aX} {th:Bool} (h:Cx w A n cap t o p th) (hb:Below w.heap.size w W):Cx W A n cap t o p th:=
 ⟨h.1,h.2.1.below hb,h.2.2⟩
def wo (base:Nat) (W:World) (A0:Option Addr) (n0 cap0:Nat) (t u:List au) (ks:List ByteArray) (v K:Value):Prop:=
 ((v= .slice A0 n0 cap0∧u=t)∨∃l,bf W base v l∧fK W l∧l.map Prod.fst=u)∧RowK W base K ks
def Bl (w:World) (A0:Option Addr) (n0 cap0:Nat) (t u:List au) (r:dx) (e:Ending) (W:World):Prop:=
 ∃v K,e= .returned (.tuple #[v,bX r K])∧wo w.heap.size W A0 n0 cap0 t u r.keys v K∧Below w.heap.size w W
theorem Jd {w W:World} {A:Option Addr} {n cap:Nat} {t:List au} {r:dx} (hk:r.keys=[]) (hb:Below w.heap.size w W):
  Bl w A n cap t t r (.returned (.tuple #[.slice A n cap,bX r (.slice none 0 0)])) W:=⟨_,_,rfl,⟨.inl ⟨rfl,rfl⟩,by rw[hk];exact nI _ _⟩,hb⟩
theorem wo.four {w W0 W:World} {g n0 cap0:Nat} {A0:Option Addr} {t u:List au} {ks:List ByteArray} {v K a b c d:Value} {T:TypeId} (h:wo W0.heap.size W A0 n0 cap0 t u ks v K) (hz:aj W g (.cells #[a,b,c,d] T (0,0))) (hT:T≠65) (hg:g<W0.heap.size) (hw:w.heap.size≤W0.heap.size) (x y z s:Value):
  wo w.heap.size (((((W).setCell ⟨g,0,none⟩ x).setCell ⟨g,1,none⟩ y).setCell ⟨g,2,none⟩ z).setCell ⟨g,3,none⟩ s) A0 n0 cap0 t u ks v K:=by
 obtain⟨h1,h2⟩:=h;refine⟨?_,Lc hw (uD h2 (fun e=>by have:=(h2.lt _ e.symm).1;omega) x y z s)⟩;rcases h1 with h1|⟨l,hr,hx,hm⟩
 ·exact .inl h1
 ·exact .inr ⟨l,(qG hr (fun e=>by have:=(hr.lt _ e.symm).1;omega) x y z s).base hw,qA hx hz hT x y z s,hm⟩
theorem wo.drew {base:Nat} {W:World} {n0 cap0:Nat} {A0:Option Addr} {t u:List au} {ks:List ByteArray} {v K:Value} (h:wo base W A0 n0 cap0 t u ks v K):wo base W.drew A0 n0 cap0 t u ks v K:=h
theorem VJ (t:List au) (A:Option Addr) (n cap:Nat) (o:aX) (p:Nat) (th:Bool) (e:Nat) (z:Int) (hz:z=e) (w:World) (hc:n≤cap) (ht:gW w A n t):
  Calls Tryz.prog 170 #[iV A n cap o p th,.int .i64 z] w fun x w'=>x= .returned (.tuple #[.slice A n cap,.agg (bR z (.slice none 0 0))])∧Below w.heap.size w w':=by
 have HE:Hid (z=e):=hz;clear hz;have HT:=ah ht;clear ht;have HC:=ah hc;clear hc;have hb1:Below w.heap.size w (w.alloc (.cells (aW A n cap o p th) 117)):=ak _ _;have hb2:Below w.heap.size w ((w.alloc (.cells (aW A n cap o p th) 117)).alloc (.cells z4 43)):=hb1.alloc (by simp) _;have hwk:gX ((w.alloc (.cells (aW A n cap o p th) 117)).alloc (.cells z4 43)) w.heap.size A n cap o p th:=(gX.new w A n cap o p th).below (ak _ _);have hzb:aj ((w.alloc (.cells (aW A n cap o p th) 117)).alloc (.cells z4 43)) (w.heap.size+1) (.cells z4 43 (0,0)):=by have h:=aj.new (w.alloc (.cells (aW A n cap o p th) 117)) (.cells z4 43);rw[World.size_alloc]at h;exact h
 obtain⟨W0,hW0⟩:=aQ ((w.alloc (.cells (aW A n cap o p th) 117)).alloc (.cells z4 43));rw[hW0]at hb2 hwk hzb;clear hb1;have jq:Hid (gX W0 w.heap.size A n cap o p th):=hwk;clear hwk;have gQ:=ah hzb;clear hzb;have HB:=ah hb2;clear hb2;have dK:Hid (w.heap.size+1<W0.heap.size):=aj.lt gQ.out;unfold iV;obtain⟨c0,c1,c2,c3,c4,c5,c6,c7,c8,c9⟩:=jq.out.cells;go_enter Tryz.func170,Tryz.ntmps170;go_upto_region 1 with fail;obtain⟨z0,z1,z2,z3⟩:=aY gQ.out;obtain⟨f0,f1,f2,f3⟩:=dX gQ.out;have hfin:=jI gQ.out (.int .i64 z) (.int .i64 0) (.string ⟨#[]⟩) (.slice none 0 0);obtain⟨e0,e1,e2,e3⟩:=aY hfin;have aU:=ah (jG (g:=(w.heap.size+1)) HB.out (Nat.le_succ _) (.int .i64 z) (.int .i64 0) (.string ⟨#[]⟩) (.slice none 0 0));clear hfin;go_wp2_with fail;refine bodyPost_ret (v:=.tuple #[.slice A n cap,.agg (bR z (.slice none 0 0))]) (by simp[results,Tryz.results170,go_sem,e0,e1,e2,e3]) rfl ⟨rfl,aU.out⟩
def Dn (t:List au) (p:Nat) (th:Bool):Int:=if th then(atR t p).rev else 0
theorem abt (t:List au) (A:Option Addr) (n cap:Nat) (o:aX) (p:Nat) (th:Bool) (w:World) (ht:gW w A n t) (hp:th=true→p<t.length):
  Calls Tryz.prog 175 #[iV A n cap o p th] w fun e w'=>e= .returned (.int .i64 (Dn t p th))∧Below w.heap.size w w':=by
 have HN:Hid (n=t.length):=ht.1;have HT:=ah ht;clear ht;have hb1:Below w.heap.size w (w.alloc (.cells (aW A n cap o p th) 117)):=ak _ _;have hwk:=gX.new w A n cap o p th;obtain⟨W0,hW0⟩:=aQ (w.alloc (.cells (aW A n cap o p th) 117));rw[hW0]at hb1 hwk;have jq:Hid (gX W0 w.heap.size A n cap o p th):=hwk;clear hwk;have HB:=ah hb1;clear hb1;unfold iV;obtain⟨c0,c1,c2,c3,c4,c5,c6,c7,c8,c9⟩:=jq.out.cells
 cases th with
 |false=>
  clear hp;go_enter Tryz.func175,Tryz.ntmps175;go_wp2_with fail;go_ret;exact⟨rfl,HB.out⟩
 |true=>
  have hpl:=hp rfl;clear hp;have hpn:p<n:=by have:=HN.out;omega
  have hp0:(0:Int)≤(p:Int):=by omega
  have hp1:(p:Int)<(n:Int):=by omega
  obtain⟨b,off,hA,_⟩:=HT.out.block (by omega);subst hA;obtain⟨E,m,c,⟨x0,x1,x2,x3,x4,x5⟩,_,_⟩:=HT.out.at hpl HB.out;have HE:Hid (Dn t p true=(atR t p).rev):=rfl;clear hpl;generalize atR t p=r at*;go_enter Tryz.func175,Tryz.ntmps175;go_wp2_with fail;go_ret;exact⟨by rw[HE.out];rfl,HB.out⟩
def FB (t:List au) (p:Nat) (th:Bool):Bool:=if th then(atR t p).rev==bZ else decide (t.length=20)
theorem ao3 (t:List au) (A:Option Addr) (n cap:Nat) (o:aX) (p:Nat) (th:Bool) (w:World) (ht:gW w A n t) (hp:th=true→p<t.length):
  Calls Tryz.prog 193 #[iV A n cap o p th] w fun e w'=>e= .returned (.bool (FB t p th))∧Below w.heap.size w w':=by
 have HN:Hid (n=t.length):=ht.1;have HT:=ah ht;clear ht;have hb1:Below w.heap.size w (w.alloc (.cells (aW A n cap o p th) 117)):=ak _ _;have hwk:=gX.new w A n cap o p th;obtain⟨W0,hW0⟩:=aQ (w.alloc (.cells (aW A n cap o p th) 117));rw[hW0]at hb1 hwk;have jq:Hid (gX W0 w.heap.size A n cap o p th):=hwk;clear hwk;have HB:=ah hb1;clear hb1;unfold iV
 cases th with
 |false=>
  clear hp;obtain⟨c0,c1,c2,c3,c4,c5,c6,c7,c8,c9⟩:=jq.out.cells
  by_cases h20:n=20
  ·have HE:Hid (FB t p false=true):=decide_eq_true (by rw[←HN.out];exact h20);have e1:((n:Int)==20)=true:=by simp;omega
   clear h20;go_enter Tryz.func193,Tryz.ntmps193;go_wp2_with fail;go_ret;exact⟨by rw[HE.out];rfl,HB.out⟩
  ·have HE:Hid (FB t p false=false):=decide_eq_false (by rw[←HN.out];exact h20);have e1:((n:Int)==20)=false:=by simp;omega
   clear h20;go_enter Tryz.func193,Tryz.ntmps193;go_wp2_with fail;go_ret;exact⟨by rw[HE.out];rfl,HB.out⟩
 |true=>
  have q:=abt t A n cap o p true W0 (HT.out.below HB.out) hp;have HE:Hid (FB t p true=((atR t p).rev==9007199254740992)):=rfl;have e0:Dn t p true=(atR t p).rev:=rfl;rw[e0]at q;clear e0 hp;unfold iV at q;generalize(atR t p).rev=z at*;obtain⟨c0,c1,c2,c3,c4,c5,c6,c7,c8,c9⟩:=jq.out.cells
  cases hz:(z==9007199254740992)with
  |true=>
   have HZ:=ah (HE.out.trans hz);go_enter Tryz.func193,Tryz.ntmps193;go_wp2_with fail
   ((with_reducible refine q.mono ?_);rintro e W1 ⟨rfl,b1⟩)
   have HB1:=ah (aA HB.out b1);clear b1 q;go_wp2_with fail;go_ret;exact⟨by rw[HZ.out];rfl,HB1.out⟩
  |false=>
   have HZ:=ah (HE.out.trans hz);go_enter Tryz.func193,Tryz.ntmps193;go_wp2_with fail
   ((with_reducible refine q.mono ?_);rintro e W1 ⟨rfl,b1⟩)
   have HB1:=ah (aA HB.out b1);clear b1 q;go_wp2_with fail;go_ret;exact⟨by rw[HZ.out];rfl,HB1.out⟩
def aag (t:List au) (p:Nat) (th:Bool):dx:=if th then⟨0,(atR t p).rev,(atR t p).value,[]⟩else gK 70
theorem ao_ (t:List au) (A:Option Addr) (n cap:Nat) (o:aX) (p:Nat) (th:Bool) (w:World) (h:Cx w A n cap t o p th):
  Calls Tryz.prog 128 #[iV A n cap o p th] w (Bl w A n cap t t (aag t p th)):=by
 obtain⟨hc,ht,hr,ho,hpl⟩:=h;have HN:Hid (n=t.length):=ht.1;have HT:=ah ht;clear ht;have HC:=ah hc;clear hc;clear hr ho;have hb1:Below w.heap.size w (w.alloc (.cells (aW A n cap o p th) 117)):=ak _ _;have hb2:Below w.heap.size w ((w.alloc (.cells (aW A n cap o p th) 117)).alloc (.cells z4 43)):=hb1.alloc (by simp) _;have hwk:gX ((w.alloc (.cells (aW A n cap o p th) 117)).alloc (.cells z4 43)) w.heap.size A n cap o p th:=(gX.new w A n cap o p th).below (ak _ _);have hzb:aj ((w.alloc (.cells (aW A n cap o p th) 117)).alloc (.cells z4 43)) (w.heap.size+1) (.cells z4 43 (0,0)):=by have h:=aj.new (w.alloc (.cells (aW A n cap o p th) 117)) (.cells z4 43);rw[World.size_alloc]at h;exact h
 obtain⟨W0,hW0⟩:=aQ ((w.alloc (.cells (aW A n cap o p th) 117)).alloc (.cells z4 43));rw[hW0]at hb2 hwk hzb;clear hb1;have jq:Hid (gX W0 w.heap.size A n cap o p th):=hwk;clear hwk;have gQ:=ah hzb;clear hzb;have HB:=ah hb2;clear hb2;have dK:Hid (w.heap.size+1<W0.heap.size):=aj.lt gQ.out;unfold iV
 cases th with
 |false=>
  clear hpl;have q:=VJ t A n cap o p false 70 70 rfl W0 HC.out (HT.out.below HB.out);unfold iV at q;obtain⟨c0,c1,c2,c3,c4,c5,c6,c7,c8,c9⟩:=jq.out.cells;go_enter Tryz.func128,Tryz.ntmps128;go_wp2_with fail
  ((with_reducible refine q.mono ?_);rintro e W1 ⟨rfl,b1⟩)
  clear q;have hz1:=aj.below gQ.out b1;have HB1:=ah (aA HB.out b1);clear b1;clear c0 c1 c2 c3 c4 c5 c6 c7 c8 c9;obtain⟨z0,z1,z2,z3⟩:=aY hz1;obtain⟨f0,f1,f2,f3⟩:=dX hz1;have hfin:=jI hz1 (.int .i64 70) (.int .i64 0) (.string ⟨#[]⟩) (.slice none 0 0);obtain⟨e0,e1,e2,e3⟩:=aY hfin;have aU:=ah (jG (g:=(w.heap.size+1)) HB1.out (Nat.le_succ _) (.int .i64 70) (.int .i64 0) (.string ⟨#[]⟩) (.slice none 0 0));clear hfin;go_wp2_with fail;refine bodyPost_ret (v:=.tuple #[.slice A n cap,.agg (bR 70 (.slice none 0 0))]) (by simp[results,Tryz.results128,go_sem,e0,e1,e2,e3]) rfl (Jd (r:=gK 70) rfl aU.out)
 |true=>
  have hpt:=(FW hpl).1;clear hpl;have hpn:p<n:=by have:=HN.out;omega
  have hp0:(0:Int)≤(p:Int):=by omega
  have hp1:(p:Int)<(n:Int):=by omega
  obtain⟨b,off,hA,_⟩:=HT.out.block (by omega);subst hA;obtain⟨E,m,c,hx,_,_⟩:=HT.out.at hpt HB.out;have HE:Hid (aag t p true=⟨0,(atR t p).rev,(atR t p).value,[]⟩):=rfl;clear hpt;generalize atR t p=r at*;obtain⟨x0,x1,x2,x3,x4,x5⟩:=hx;obtain⟨c0,c1,c2,c3,c4,c5,c6,c7,c8,c9⟩:=jq.out.cells;go_enter Tryz.func128,Tryz.ntmps128;go_upto_region 4 with fail;clear x0 x1 x2 x3 x4 x5 c0 c1 c2 c3 c4 c5 c6 c7 c8 c9;have hb3:Below W0.heap.size W0 (W0.alloc (.cells (aC r (.slice E m c)) 68)):=ak _ _;have hrb:=aj.new W0 (.cells (aC r (.slice E m c)) 68);obtain⟨V,hV⟩:∃V,W0.alloc (.cells (aC r (.slice E m c)) 68)=V:=⟨_,rfl⟩;rw[hV]at hb3 hrb ⊢;clear hV;have hz1:=aj.below gQ.out hb3;have I5:=jq.out.below hb3;have HB1:=ah (aA HB.out hb3);clear hb3;obtain⟨c0,c1,c2,c3,c4,c5,c6,c7,c8,c9⟩:=I5.cells;have y1:=aj.cell hrb 1;have y2:=aj.cell hrb 2;simp only[aM]at y1 y2;obtain⟨z0,z1,z2,z3⟩:=aY hz1;obtain⟨f0,f1,f2,f3⟩:=dX hz1;have hfin:=jI hz1 (.int .i64 0) (.int .i64 r.rev) (.string r.value) (.slice none 0 0);obtain⟨e0,e1,e2,e3⟩:=aY hfin;have aU:=ah (jG (g:=(w.heap.size+1)) HB1.out (Nat.le_succ _) (.int .i64 0) (.int .i64 r.rev) (.string r.value) (.slice none 0 0));clear hfin;go_region;go_wp2_with fail;refine bodyPost_ret (v:=.tuple #[.slice (some ⟨b,off,none⟩) n cap,.agg #[(.int .i64 0),(.int .i64 r.rev),(.string r.value),(.slice none 0 0)]]) (by simp[results,Tryz.results128,go_sem,e0,e1,e2,e3]) rfl (by rw[HE.out];exact Jd (r:=⟨0,r.rev,r.value,[]⟩) rfl aU.out.drew)
def ais (W:World) (base:Nat) (v:Value) (row:Option Nat) (l:List (au×Value)) (e:Ending) (W':World):Prop:=
 e= .returned (.tuple #[])∧bf W' base v l∧W.grownBy W' row
def WH (FN:Nat) (f:au→au) (o:aX):Prop:=∀(gw g n cap i base:Nat) (A2:Option Addr) (n2 cap2 p:Nat) (th:Bool) (l:List (au×Value)) (W:World),
 gX W gw A2 n2 cap2 o p th→bf W base (.slice (some ⟨g,0,none⟩) n cap) l→i<l.length→gw≠g→
 Calls Tryz.prog FN #[.pointer (some ⟨g,i*6,none⟩),.pointer (some ⟨gw,0,none⟩)] W (ais W base (.slice (some ⟨g,0,none⟩) n cap) (some g) (l.set i (f (aK l i).1,(aK l i).2)))
def yO (o:aX) (r:au):au:={ r with value:=o.value }
def Ei (o:aX) (r:au):au:={ r with life:=o.life,note:=o.note }
theorem arE (o:aX):WH 172 (yO o) o:=by
 intro gw g n cap i base A2 n2 cap2 p th l W hwk hrow hi hne;have hq1:=(bf.set hrow i 1 (.string o.value) (yO o (aK l i).1,(aK l i).2) hi (by omega) rfl).1;have hg1:=rG W g (i*6+1) (.string o.value);obtain⟨x0,x1,x2,x3,x4,x5⟩:=hrow.six hi;have f1:W.frozen? ⟨g,i*6+1,none⟩=false:=hrow.frozen;obtain⟨c0,c1,c2,c3,c4,c5,c6,c7,c8,c9⟩:=hwk.cells;have HQ:=ah hq1;clear hq1;have HG:=ah hg1;clear hg1;clear hrow hwk;generalize(aK l i).1=r at*;go_enter Tryz.func172,Tryz.ntmps172;go_wp2_with fail
 first|go_ret|go_end0
 exact⟨rfl,HQ.out,HG.out⟩
theorem apc {w W:World} {row:Option Nat} (h:w.grownBy W row):w.grownBy W.drew row:=⟨h.os,h.tape,h.output,h.size,h.block⟩
theorem aqx (o:aX):WH 176 (Ei o) o:=by
 intro gw g n cap i base A2 n2 cap2 p th l W hwk hrow hi hne;have hq1:=(bf.set hrow i 3 (.int .i64 o.life) ({ (aK l i).1 with life:=o.life },(aK l i).2) hi (by omega) rfl).1;have hl1:i<(l.set i ({ (aK l i).1 with life:=o.life },(aK l i).2)).length:=by rw[List.length_set];exact hi
 have hq2:=(bf.set hq1 i 4 (.string o.note) (Ei o (aK l i).1,(aK l i).2) hl1 (by omega) (by rw[xD hi];rfl)).1;rw[List.set_set]at hq2;have hg1:=(rG W g (i*6+3) (.int .i64 o.life)).trans (rG _ g (i*6+4) (.string o.note));obtain⟨x0,x1,x2,x3,x4,x5⟩:=hrow.six hi;have hy:=hq1.six hl1;rw[xD hi]at hy;obtain⟨_,_,_,_,y4,_⟩:=hy;simp only at y4;have f3:W.frozen? ⟨g,i*6+3,none⟩=false:=hrow.frozen;have f4:(W.setCell ⟨g,i*6+3,none⟩ (.int .i64 o.life)).frozen? ⟨g,i*6+4,none⟩=false:=hq1.frozen;have hs:W.drew.cell? ⟨gw,6,none⟩=some (.int .i64 o.life)∧W.drew.cell? ⟨gw,7,none⟩=some (.string o.note):=⟨hwk.cells.2.2.2.2.2.2.1,hwk.cells.2.2.2.2.2.2.2.1⟩;have acS:Hid (∀(V:World) (j:Nat) (u:Value),(V.cell? ⟨gw,6,none⟩=some (.int .i64 o.life)∧V.cell? ⟨gw,7,none⟩=some (.string o.note))→((V.setCell ⟨g,j,none⟩ u).cell? ⟨gw,6,none⟩=some (.int .i64 o.life)∧(V.setCell ⟨g,j,none⟩ u).cell? ⟨gw,7,none⟩=some (.string o.note))):=fun V j u h=>
  ⟨(World.cell?_setCell_other _ _ _ _ (by intro e;cases e;exact hne rfl)).trans h.1,(World.cell?_setCell_other _ _ _ _ (by intro e;cases e;exact hne rfl)).trans h.2⟩
 have HQ:Hid (bf (((W.setCell ⟨g,i*6+3,none⟩ (.int .i64 o.life)).setCell ⟨g,i*6+4,none⟩ (.string o.note))) base (.slice (some ⟨g,0,none⟩) n cap) (l.set i (Ei o (aK l i).1,(aK l i).2))):=hq2;clear hq2;have HG:=ah hg1;clear hg1;have HS:=ah hs;clear hs;clear hrow hwk hq1 hl1;generalize(aK l i).1=r at*;go_enter Tryz.func176,Tryz.ntmps176;go_upto_region 0 with fail;refine wp_region_noPanic ?_;refine wp_region_held_drew (S:=(fun W=>W.cell? ⟨gw,6,none⟩=some (.int .i64 o.life)∧W.cell? ⟨gw,7,none⟩=some (.string o.note))) (by kernel_rfl) (HS.out) (fun hHeld=>?_);refine ay 0 ?_;refine ay 1 ?_;refine ay 2 ?_;refine ay 3 ?_;refine ay 4 ?_ (hy:=fun w hSw=>by((try dsimp only at hSw);obtain⟨s6,s7⟩:=hSw;go_simp;(try with_reducible rfl)));refine ay 5 ?_;refine ay 6 ?_;refine ay 7 ?_ (hy:=fun w hSw=>by((try dsimp only at hSw);obtain⟨s6,s7⟩:=hSw;go_simp;(try with_reducible rfl)));refine ay 8 ?_;refine ay 9 ?_;refine bH 10 fun K hK=>?_;go_simp;refine hK.out _ _ (acS.out _ _ _ hHeld) fun hHeld=>?_;clear hK K;refine ay 11 ?_;refine ay 12 ?_;refine bH 13 fun K hK=>?_;go_simp;refine hK.out _ _ (acS.out _ _ _ hHeld) fun hHeld=>?_;clear hK K;refine wpAnyH_done (by kernel_rfl) ?_ _;refine NoPanic.normal ?_;go_wp2_with fail
 first|go_ret|go_end0
 exact⟨rfl,HQ.out.drew,apc HG.out⟩
def oF (r:au):au:={ r with rev:=r.rev+1 }
def Aj (o:aX):au:=⟨o.key,⟨#[]⟩,0,0,⟨#[]⟩,[]⟩
def qJ (f:au→au) (t:List au) (o:aX) (p:Nat) (th:Bool):List au×dx:=
 if FB t p th then(t,gK 50)
 else if th then(t.set p (oF (f (atR t p))),⟨0,(atR t p).rev+1,⟨#[]⟩,[]⟩)
 else(t.take p++oF (f (Aj o))::t.drop p,⟨0,1,⟨#[]⟩,[]⟩)
theorem agJ {w W:World} {base n cap n0 cap0:Nat} {A A0:Option Addr} {l:List (au×Value)} {t u:List au} {r:dx} (hr:bf W base (.slice A n cap) l) (hbs:w.heap.size≤base) (hx:fK W l) (hm:l.map Prod.fst=u) (hk:r.keys=[]) (hb:Below w.heap.size w W):
  Bl w A0 n0 cap0 t u r (.returned (.tuple #[.slice A n cap,bX r (.slice none 0 0)])) W:=
 ⟨_,_,rfl,⟨.inr ⟨l,hr.base hbs,hx,hm⟩,by rw[hk];exact nI _ _⟩,hb⟩
theorem atd {α:Type} (a b:List α) (x y:α):(a++x::b).set a.length y=a++y::b:=by simp
theorem bf.apart {W:World} {base g n cap:Nat} {A:Option Addr} {l:List (au×Value)} (h:bf W base (.slice A n cap) l) (hg:g<base):some g≠(Value.slice A n cap).ownBlock:=fun e=>by
 have:=(h.lt g e.symm).1;omega
theorem ail (FN:Nat) (f:au→au) (t:List au) (A:Option Addr) (n cap:Nat) (o:aX) (p:Nat) (th:Bool) (gx:Nat) (w:World) (h:Cx w A n cap t o p th)
  (cf:∀(args:Array Value) (W:World),(callFunc FN args).run Tryz.prog W= .ok (.enter FN args) W) (hch:WH FN f o) (hf:∀r,(f r).rev=r.rev) (hfe:∀r,(f r).extra=r.extra) (hfw:∀r,om r→0≤r.rev∧r.rev<9007199254740992→om (oF (f r)))
  (hgx:gX w gx A n cap o p th):
  Calls Tryz.prog 171 #[iV A n cap o p th,.func (.func FN) #[] #[.pointer (some ⟨gx,0,none⟩)]] w (Bl w A n cap t (qJ f t o p th).1 (qJ f t o p th).2):=by
 obtain⟨hc,ht,hr,ho,hpl⟩:=h;have HN:Hid (n=t.length):=ht.1;have HT:=ah ht;clear ht;have HC:=ah hc;clear hc;have HR:=ah hr;clear hr;have HO:=ah ho;clear ho;have HFW:=ah hfw;clear hfw;have Ye:Hid (th=true→p<t.length):=fun e=>by subst e;exact(FW hpl).1
 have HP0:Hid (p≤t.length):=hpl.1;clear hpl;have HGL:Hid (gx<w.heap.size):=aj.lt hgx;have acG:Hid (gX w gx A n cap o p th):=hgx;clear hgx;have hb1:Below w.heap.size w (w.alloc (.cells (aW A n cap o p th) 117)):=ak _ _;have hb2:Below w.heap.size w ((w.alloc (.cells (aW A n cap o p th) 117)).alloc (.cells z4 43)):=hb1.alloc (by simp) _;have hwk:gX ((w.alloc (.cells (aW A n cap o p th) 117)).alloc (.cells z4 43)) w.heap.size A n cap o p th:=(gX.new w A n cap o p th).below (ak _ _);have hzb:aj ((w.alloc (.cells (aW A n cap o p th) 117)).alloc (.cells z4 43)) (w.heap.size+1) (.cells z4 43 (0,0)):=by have h:=aj.new (w.alloc (.cells (aW A n cap o p th) 117)) (.cells z4 43);rw[World.size_alloc]at h;exact h
 obtain⟨W0,hW0⟩:=aQ ((w.alloc (.cells (aW A n cap o p th) 117)).alloc (.cells z4 43));rw[hW0]at hb2 hwk hzb;clear hb1;have jq:Hid (gX W0 w.heap.size A n cap o p th):=hwk;clear hwk;have gQ:=ah hzb;clear hzb;have HB:=ah hb2;clear hb2;have dK:Hid (w.heap.size+1<W0.heap.size):=aj.lt gQ.out;unfold iV;have q:=ao3 t A n cap o p th W0 (HT.out.below HB.out) Ye.out;unfold iV at q;obtain⟨c0,c1,c2,c3,c4,c5,c6,c7,c8,c9⟩:=jq.out.cells
 cases hfu:FB t p th with
 |true=>
  have HE:Hid (qJ f t o p th=(t,gK 50)):=if_pos hfu;rw[hfu]at q;clear hfu hch hf hfe cf;go_enter Tryz.func171,Tryz.ntmps171;go_wp2_with fail
  ((with_reducible refine q.mono ?_);rintro e W1 ⟨rfl,b1⟩)
  clear q;have hz1:=aj.below gQ.out b1;have I5:=jq.out.below b1;have HB1:=ah (aA HB.out b1);clear b1;clear c0 c1 c2 c3 c4 c5 c6 c7 c8 c9;obtain⟨c0,c1,c2,c3,c4,c5,c6,c7,c8,c9⟩:=I5.cells;have q:=VJ t A n cap o p th 50 50 rfl W1 HC.out (HT.out.below HB1.out);unfold iV at q;go_wp2_with fail
  ((with_reducible refine q.mono ?_);rintro e W2 ⟨rfl,b2⟩)
  clear q;have hz2:=aj.below hz1 b2;have HB2:=ah (aA HB1.out b2);clear b2 hz1 I5;clear c0 c1 c2 c3 c4 c5 c6 c7 c8 c9;obtain⟨z0,z1,z2,z3⟩:=aY hz2;obtain⟨f0,f1,f2,f3⟩:=dX hz2;have hfin:=jI hz2 (.int .i64 50) (.int .i64 0) (.string ⟨#[]⟩) (.slice none 0 0);obtain⟨e0,e1,e2,e3⟩:=aY hfin;have aU:=ah (jG (g:=(w.heap.size+1)) HB2.out (Nat.le_succ _) (.int .i64 50) (.int .i64 0) (.string ⟨#[]⟩) (.slice none 0 0));clear hfin;go_wp2_with fail;refine bodyPost_ret (v:=.tuple #[.slice A n cap,.agg (bR 50 (.slice none 0 0))]) (by simp[results,Tryz.results171,go_sem,e0,e1,e2,e3]) rfl (by rw[HE.out];exact Jd (r:=gK 50) rfl aU.out)
 |false=>
  rw[hfu]at q;go_enter Tryz.func171,Tryz.ntmps171;go_wp2_with fail
  ((with_reducible refine q.mono ?_);rintro e W1 ⟨rfl,b1⟩)
  clear q;have hz1:=aj.below gQ.out b1;have I5:=jq.out.below b1;have HB1:=ah (aA HB.out b1);have gP:Hid (W0.heap.size≤W1.heap.size):=b1.size;clear b1;clear c0 c1 c2 c3 c4 c5 c6 c7 c8 c9;obtain⟨c0,c1,c2,c3,c4,c5,c6,c7,c8,c9⟩:=I5.cells;have q:=aeM t A n cap W1 (HT.out.below HB1.out) (by have:=HN.out;have:=HR.out.2.2;omega);go_wp2_with fail
  ((with_reducible refine q.mono ?_);rintro e W2 ⟨v2,l,rfl,hrow2,hmap2,zZ,b2⟩)
  clear q;have hz2:=aj.below hz1 b2;have Vb:=I5.below b2;have HB2:=ah (aA HB1.out b2);have HS2:Hid (W1.heap.size≤W2.heap.size):=b2.size;clear b2 hz1 I5;clear c0 c1 c2 c3 c4 c5 c6 c7 c8 c9;obtain⟨A2,cap2,hv2,hcp2,Q6⟩:=hrow2.parts;have gN:Hid (l.length=n):=by have:=congrArg List.length hmap2;rw[List.length_map]at this;show _=_;have:=HN.out;omega
  rw[gN.out]at hv2 hcp2;subst hv2;have adq:Hid (w.heap.size+1<W1.heap.size):=by have:=dK.out;have:=gP.out;show _<_;omega
  clear dK;have dK:=adq;clear adq Q6;have Ya:=ah hmap2;clear hmap2
  cases th with
  |true=>
   have jk:Hid (p<l.length):=by have:=Ye.out rfl;have:=HN.out;have:=gN.out;show _<_;omega
   have w_:Hid (n=l.length):=gN.out.symm;have iC:=ah hrow2;clear hrow2;have qL:=ah zZ;clear zZ;have YQ:Hid (gX W2 w.heap.size A n cap o p true):=Vb;clear Vb;have YW:=ah hz2;clear hz2;have eT:=HB2;have Gw:Hid (gX W2 gx A n cap o p true):=acG.out.below HB2.out;have afY:(aK l p).1=atR t p:=by rw[Cz l jk.out,Ya.out]
   obtain⟨r0,hr0⟩:∃r0,atR t p=r0:=⟨_,rfl⟩;have HAT:Hid ((aK l p).1=r0):=afY.trans hr0;have qg:Hid (0≤r0.rev∧r0.rev<9007199254740992):=by
    have h1:=ahl (HR.out.1 _ (sK (Ye.out rfl)));rw[hr0]at h1;have h2:(r0.rev==bZ)=false:=by rw[←hr0];exact hfu
    rw[beq_eq_false_iff_ne]at h2;unfold bZ at h2;exact⟨h1.1,by omega⟩
   have HE:Hid (qJ f t o p true=((l.map Prod.fst).set p (oF (f r0)),⟨0,r0.rev+1,⟨#[]⟩,[]⟩)):=by
    show _=_;unfold qJ;rw[hfu,Ya.out,hr0];rfl
   clear hfu hr0 afY;obtain⟨g,hA2,hbg⟩:=iC.out.qh jk.out;subst hA2;have hpn:p<n:=by have:=w_.out;have:=jk.out;omega
   have hp0:(0:Int)≤(p:Int):=by omega
   have hp1:(p:Int)<(n:Int):=by omega
   have hgx:gx≠g:=by have:=HGL.out;have:=dK.out;omega
   have q:=hch gx g n cap2 p _ A n cap p true l W2 Gw.out iC.out jk.out hgx;obtain⟨c0,c1,c2,c3,c4,c5,c6,c7,c8,c9⟩:=YQ.out.cells;clear gP;go_upto_region 7 with fail;clear c0 c1 c2 c3 c4 c5 c6 c7 c8 c9;go_wp2_with fail
   ((with_reducible refine q.mono ?_);rintro e V5 ⟨rfl,iQ,hg5⟩)
   clear q;have hbr:=iC.out.block;have hx5:=qL.out.kept hg5 (fun k e=>by cases e;exact hbr g (by simp[Value.ownBlock]));have cZ:=aj.kept YW.out hg5 (iC.out.apart (g:=w.heap.size+1) (by have:=dK.out;omega));have hb5:Below w.heap.size w V5:=eT.out.grown hg5 eT.out.size (fun k e=>by cases e;have:=dK.out;omega);have gN:Hid (p<(l.set p (f (aK l p).1,(aK l p).2)).length):=by show _<_;rw[List.length_set];exact jk.out
   have hs5:=iQ.six gN.out;rw[xD jk.out]at hs5;have vw:=(bf.set iQ p 2 (.int .i64 ((f (aK l p).1).rev+1)) (oF (f (aK l p).1),(aK l p).2) gN.out (by omega) (by rw[xD jk.out];rfl)).1;rw[List.set_set]at vw;have HL2:Hid (p<(l.set p (oF (f (aK l p).1),(aK l p).2)).length):=by show _<_;rw[List.length_set];exact jk.out
   have hs6:=vw.six HL2.out;rw[xD jk.out]at hs6;have QL:=iQ.block;have hx6:=hx5.kept (rG V5 g (p*6+2) (.int .i64 ((f (aK l p).1).rev+1))) (fun k e=>by cases e;exact QL g (by simp[Value.ownBlock]));have hx7:=UJ hx6 jk.out (r:=oF (f (aK l p).1)) (HFW.out _ (qL.out _ (yM jk.out)).1 (by rw[HAT.out];exact qg.out)) (hfe _);have vD:=aj.far cZ (show w.heap.size+1≠g by have:=dK.out;omega) (p*6+2) (.int .i64 ((f (aK l p).1).rev+1));have hb6:=hb5.setCell (p:=⟨g,p*6+2,none⟩) (show w.heap.size≤g by have:=dK.out;omega) (.int .i64 ((f (aK l p).1).rev+1));have f5:V5.frozen? ⟨g,p*6+2,none⟩=false:=iQ.frozen;have zB:Hid ((l.set p (oF (f (aK l p).1),(aK l p).2)).map Prod.fst=(l.map Prod.fst).set p (oF (f r0))):=by show _=_;rw[Jb,HAT.out]
   obtain⟨L6,hL6⟩:∃L6,l.set p (oF (f (aK l p).1),(aK l p).2)=L6:=⟨_,rfl⟩;rw[hL6]at vw hx7 zB;obtain⟨_,_,y2,_,_,_⟩:=hs5;obtain⟨_,_,u2,_,_,_⟩:=hs6;have hfr:=hf (aK l p).1;rw[HAT.out]at hfr;rw[HAT.out,hfr]at y2 vw hx7 vD hb6;have hu2:(oF (f (aK l p).1)).rev=r0.rev+1:=by rw[HAT.out];show(f r0).rev+1=_;rw[hfr]
   rw[hu2,HAT.out,hfr]at u2;have uo:=qg.out;have hwr:IntKind.i64.wrap (r0.rev+1)=r0.rev+1:=IntWalk.i64_in _ (by omega);have EZ:=ah vw;clear vw;have Fe:=ah hx7;clear hx7;have xB:=ah vD;clear vD;have gM:=ah hb6;clear hb6;clear hL6 hx5 cZ hb5 iQ hx6 hbr QL hg5 hfr hu2 uo gN HL2;go_upto_region 9 with fail;obtain⟨V6,QI⟩:∃V,V5.setCell ⟨g,p*6+2,none⟩ (.int .i64 (r0.rev+1))=V:=⟨_,rfl⟩;rw[QI]at u2 EZ Fe xB gM ⊢;clear QI y2 f5;have m_:Hid (some (w.heap.size+1)≠(Value.slice (some ⟨g,0,none⟩) n cap2).ownBlock):=EZ.out.apart (by have:=dK.out;omega);obtain⟨z0,z1,z2,z3⟩:=aY xB.out;obtain⟨f0,f1,f2,f3⟩:=dX xB.out;have hfin:=jI xB.out (.int .i64 0) (.int .i64 (r0.rev+1)) (.string ⟨#[]⟩) (.slice none 0 0);obtain⟨e0,e1,e2,e3⟩:=aY hfin;have aU:=ah (jG (g:=(w.heap.size+1)) gM.out (Nat.le_succ _) (.int .i64 0) (.int .i64 (r0.rev+1)) (.string ⟨#[]⟩) (.slice none 0 0));have iB:=ah (qG EZ.out m_.out (.int .i64 0) (.int .i64 (r0.rev+1)) (.string ⟨#[]⟩) (.slice none 0 0));have iH:=ah (qA Fe.out xB.out (by decide) (.int .i64 0) (.int .i64 (r0.rev+1)) (.string ⟨#[]⟩) (.slice none 0 0));clear hfin;go_region;go_wp2_with fail;refine bodyPost_ret (v:=.tuple #[.slice (some ⟨g,0,none⟩) n cap2,.agg #[(.int .i64 0),(.int .i64 (r0.rev+1)),(.string ⟨#[]⟩),(.slice none 0 0)]]) (by simp[results,Tryz.results171,go_sem,e0,e1,e2,e3]) rfl (by rw[HE.out];exact agJ (r:=⟨0,r0.rev+1,⟨#[]⟩,[]⟩) iB.out.drew (by have:=dK.out;omega) iH.out.drew zB.out rfl aU.out.drew)
  |false=>
   have afX:p≤l.length:=by have:=HP0.out;have:=HN.out;have:=gN.out;omega
   have GQ:=ah afX;have hb3:Below W2.heap.size W2 (W2.alloc (.cells #[.string o.key,.string ⟨#[]⟩,.int .i64 0,.int .i64 0,.string ⟨#[]⟩,.slice none 0 0] 68)):=ak _ _;have hvb:=aj.new W2 (.cells #[.string o.key,.string ⟨#[]⟩,.int .i64 0,.int .i64 0,.string ⟨#[]⟩,.slice none 0 0] 68);obtain⟨W3,hW3⟩:=aQ (W2.alloc (.cells #[.string o.key,.string ⟨#[]⟩,.int .i64 0,.int .i64 0,.string ⟨#[]⟩,.slice none 0 0] 68));rw[hW3]at hb3 hvb;have hrow3:=hrow2.below hb3;have aan:=zZ.below hb3;have q:=ap2 l (Aj o,.slice none 0 0) A2 n cap2 p W1.heap.size W2.heap.size W3 hrow3 gN.out.symm (by rw[←gN.out];exact GQ.out) (by have:=HN.out;have:=HR.out.2.2;omega) (Nat.le_trans HS2.out hb3.size) hvb ⟨none,0,0,rfl⟩ (fun e=>by have:=(hrow2.lt _ e).2;omega) aan.sl;have adP:Hid (gX W2 w.heap.size A n cap o p false):=Vb;clear Vb;have HZ2:=ah hz2;clear hz2;have jP:=ah aan;clear aan zZ;have HR3:=ah hrow3;clear hrow3;have HB3:=ah hb3;clear hb3 hrow2 hvb;have hcap2:p≤n:=by rw[←gN.out];exact GQ.out
   obtain⟨c0,c1,c2,c3,c4,c5,c6,c7,c8,c9⟩:=adP.out.cells;go_wp2_with fail
   ((with_reducible refine q.mono ?_);rintro e V ⟨v3,rfl,hrow4,QW⟩)
   clear q hW3 c0 c1 c2 c3 c4 c5 c6 c7 c8 c9;have hmk:(l.take p++(Aj o,Value.slice none 0 0)::l.drop p).map Prod.fst=t.take p++Aj o::t.drop p:=by rw[List.map_append,List.map_cons,List.map_take,List.map_drop,Ya.out]
   have hll:(l.take p++(Aj o,Value.slice none 0 0)::l.drop p).length=n+1:=by rw[aa0 GQ.out,gN.out]
   have hap:aK (l.take p++(Aj o,Value.slice none 0 0)::l.drop p) p=(Aj o,.slice none 0 0):=by
    have hlt:(l.take p).length=p:=by rw[List.length_take];have:=GQ.out;omega
    rw[sJ (by rw[hll];omega)];rw[List.getElem_append_right (by omega)];simp[hlt]
   have aao:fK V (l.take p++(Aj o,Value.slice none 0 0)::l.drop p):=fun x hx=>by
    have hk:=jP.out.kept QW HR3.out.block;rcases List.mem_append.1 hx with h1|h1
    ·exact hk x (List.mem_of_mem_take h1)
    ·rcases List.mem_cons.1 h1 with rfl|h1
     ·exact⟨⟨⟨HO.out.2.1,by show(⟨#[]⟩:ByteArray).size≤_;decide,by show(⟨#[]⟩:ByteArray).size≤_;decide⟩,by show(Lit.int .i64 0).wf=true;decide,by show(Lit.int .i64 0).wf=true;decide,by show 0*24≤_;omega⟩,none,0,0,rfl,Nat.le_refl _,vE _ _,fun h=>by omega⟩
     ·exact hk x (List.mem_of_mem_drop h1)
   obtain⟨A3,rE,hv3,aal,_⟩:=hrow4.parts;rw[hll]at hv3;subst hv3;obtain⟨L,hL⟩:∃L,l.take p++(Aj o,Value.slice none 0 0)::l.drop p=L:=⟨_,rfl⟩;rw[hL]at hrow4 hmk hll hap aao;clear hL aal;have jk:Hid (p<L.length):=by have:=GQ.out;have:=gN.out;show _<_;omega
   have w_:Hid (n+1=L.length):=hll.symm;have iC:=ah hrow4;clear hrow4;have qL:=ah aao;clear aao;have aak:∀j,j<W1.heap.size→some j≠(Value.slice A2 n cap2).ownBlock:=fun j hj=>HR3.out.apart hj;have YQ:Hid (gX V w.heap.size A n cap o p false):=aj.kept (aj.below adP.out HB3.out) QW (aak _ (by have:=dK.out;omega));have YW:=ah (aj.kept (aj.below HZ2.out HB3.out) QW (aak _ dK.out));have afQ:=HR3.out.lt;have eT:Hid (Below w.heap.size w V):=(aA HB2.out HB3.out).grown QW (aA HB2.out HB3.out).size (fun k hk=>by have:=(afQ k hk).1;have:=dK.out;omega);have Gw:Hid (gX V gx A n cap o p false):=acG.out.below eT.out;obtain⟨r0,hr0⟩:∃r0,Aj o=r0:=⟨_,rfl⟩;have HAT:Hid ((aK L p).1=r0):=by show _=_;rw[hap];exact hr0
   have hz0:r0.rev=0:=by rw[←hr0];rfl
   have qg:Hid (0≤r0.rev∧r0.rev<9007199254740992):=by show _∧_;rw[hz0];decide
   have HE:Hid (qJ f t o p false=((L.map Prod.fst).set p (oF (f r0)),⟨0,r0.rev+1,⟨#[]⟩,[]⟩)):=by
    show _=_;have hlt:(t.take p).length=p:=by rw[List.length_take];have:=HP0.out;omega
    have hs:=atd (t.take p) (t.drop p) (Aj o) (oF (f (Aj o)));rw[hlt]at hs;unfold qJ;rw[hfu,hmk,hz0,←hr0,hs];rfl
   clear hfu hr0 hz0 hap aak hll QW hmk afQ afX hcap2;obtain⟨n2,hn2⟩:∃n2,n+1=n2:=⟨_,rfl⟩;rw[hn2]at iC w_ ⊢;clear hn2;obtain⟨g,hA2,hbg⟩:=iC.out.qh jk.out;subst hA2;have hpn:p<n2:=by have:=w_.out;have:=jk.out;omega
   have hp0:(0:Int)≤(p:Int):=by omega
   have hp1:(p:Int)<(n2:Int):=by omega
   have hgx:gx≠g:=by have:=HGL.out;have:=dK.out;omega
   have q:=hch gx g n2 rE p _ A n cap p false L V Gw.out iC.out jk.out hgx;obtain⟨c0,c1,c2,c3,c4,c5,c6,c7,c8,c9⟩:=YQ.out.cells;clear gP;go_upto_region 7 with fail;clear c0 c1 c2 c3 c4 c5 c6 c7 c8 c9;go_wp2_with fail
   ((with_reducible refine q.mono ?_);rintro e V5 ⟨rfl,iQ,hg5⟩)
   clear q;have hbr:=iC.out.block;have hx5:=qL.out.kept hg5 (fun k e=>by cases e;exact hbr g (by simp[Value.ownBlock]));have cZ:=aj.kept YW.out hg5 (iC.out.apart (g:=w.heap.size+1) (by have:=dK.out;omega));have hb5:Below w.heap.size w V5:=eT.out.grown hg5 eT.out.size (fun k e=>by cases e;have:=dK.out;omega);have gN:Hid (p<(L.set p (f (aK L p).1,(aK L p).2)).length):=by show _<_;rw[List.length_set];exact jk.out
   have hs5:=iQ.six gN.out;rw[xD jk.out]at hs5;have vw:=(bf.set iQ p 2 (.int .i64 ((f (aK L p).1).rev+1)) (oF (f (aK L p).1),(aK L p).2) gN.out (by omega) (by rw[xD jk.out];rfl)).1;rw[List.set_set]at vw;have HL2:Hid (p<(L.set p (oF (f (aK L p).1),(aK L p).2)).length):=by show _<_;rw[List.length_set];exact jk.out
   have hs6:=vw.six HL2.out;rw[xD jk.out]at hs6;have QL:=iQ.block;have hx6:=hx5.kept (rG V5 g (p*6+2) (.int .i64 ((f (aK L p).1).rev+1))) (fun k e=>by cases e;exact QL g (by simp[Value.ownBlock]));have hx7:=UJ hx6 jk.out (r:=oF (f (aK L p).1)) (HFW.out _ (qL.out _ (yM jk.out)).1 (by rw[HAT.out];exact qg.out)) (hfe _);have vD:=aj.far cZ (show w.heap.size+1≠g by have:=dK.out;omega) (p*6+2) (.int .i64 ((f (aK L p).1).rev+1));have hb6:=hb5.setCell (p:=⟨g,p*6+2,none⟩) (show w.heap.size≤g by have:=dK.out;omega) (.int .i64 ((f (aK L p).1).rev+1));have f5:V5.frozen? ⟨g,p*6+2,none⟩=false:=iQ.frozen;have zB:Hid ((L.set p (oF (f (aK L p).1),(aK L p).2)).map Prod.fst=(L.map Prod.fst).set p (oF (f r0))):=by show _=_;rw[Jb,HAT.out]
   obtain⟨L6,hL6⟩:∃L6,L.set p (oF (f (aK L p).1),(aK L p).2)=L6:=⟨_,rfl⟩;rw[hL6]at vw hx7 zB;obtain⟨_,_,y2,_,_,_⟩:=hs5;obtain⟨_,_,u2,_,_,_⟩:=hs6;have hfr:=hf (aK L p).1;rw[HAT.out]at hfr;rw[HAT.out,hfr]at y2 vw hx7 vD hb6;have hu2:(oF (f (aK L p).1)).rev=r0.rev+1:=by rw[HAT.out];show(f r0).rev+1=_;rw[hfr]
   rw[hu2,HAT.out,hfr]at u2;have uo:=qg.out;have hwr:IntKind.i64.wrap (r0.rev+1)=r0.rev+1:=IntWalk.i64_in _ (by omega);have EZ:=ah vw;clear vw;have Fe:=ah hx7;clear hx7;have xB:=ah vD;clear vD;have gM:=ah hb6;clear hb6;clear hL6 hx5 cZ hb5 iQ hx6 hbr QL hg5 hfr hu2 uo gN HL2;go_upto_region 9 with fail;obtain⟨V6,QI⟩:∃V,V5.setCell ⟨g,p*6+2,none⟩ (.int .i64 (r0.rev+1))=V:=⟨_,rfl⟩;rw[QI]at u2 EZ Fe xB gM ⊢;clear QI y2 f5;have m_:Hid (some (w.heap.size+1)≠(Value.slice (some ⟨g,0,none⟩) n2 rE).ownBlock):=EZ.out.apart (by have:=dK.out;omega);obtain⟨z0,z1,z2,z3⟩:=aY xB.out;obtain⟨f0,f1,f2,f3⟩:=dX xB.out;have hfin:=jI xB.out (.int .i64 0) (.int .i64 (r0.rev+1)) (.string ⟨#[]⟩) (.slice none 0 0);obtain⟨e0,e1,e2,e3⟩:=aY hfin;have aU:=ah (jG (g:=(w.heap.size+1)) gM.out (Nat.le_succ _) (.int .i64 0) (.int .i64 (r0.rev+1)) (.string ⟨#[]⟩) (.slice none 0 0));have iB:=ah (qG EZ.out m_.out (.int .i64 0) (.int .i64 (r0.rev+1)) (.string ⟨#[]⟩) (.slice none 0 0));have iH:=ah (qA Fe.out xB.out (by decide) (.int .i64 0) (.int .i64 (r0.rev+1)) (.string ⟨#[]⟩) (.slice none 0 0));clear hfin;go_region;go_wp2_with fail;refine bodyPost_ret (v:=.tuple #[.slice (some ⟨g,0,none⟩) n2 rE,.agg #[(.int .i64 0),(.int .i64 (r0.rev+1)),(.string ⟨#[]⟩),(.slice none 0 0)]]) (by simp[results,Tryz.results171,go_sem,e0,e1,e2,e3]) rfl (by rw[HE.out];exact agJ (r:=⟨0,r0.rev+1,⟨#[]⟩,[]⟩) iB.out.drew (by have:=dK.out;omega) iH.out.drew zB.out rfl aU.out.drew)
theorem anj (args:Array Value) (w:World):(callFunc 172 args).run Tryz.prog w= .ok (.enter 172 args) w:=Ez Tryz.func172 (by kernel_rfl) (by kernel_rfl) args w
theorem anh (args:Array Value) (w:World):(callFunc 176 args).run Tryz.prog w= .ok (.enter 176 args) w:=Ez Tryz.func176 (by kernel_rfl) (by kernel_rfl) args w
theorem ant {o:aX} (ho:Bo o) (r:au) (h:om r) (hb:0≤r.rev∧r.rev<9007199254740992):om (oF (yO o r)):=
 ⟨⟨h.1.1,ho.2.2.1,h.1.2.2⟩,uE (by show _≤r.rev+1;omega) (by show r.rev+1≤_;omega),h.2.2.1,h.2.2.2⟩
theorem anr {o:aX} (ho:Bo o) (r:au) (h:om r) (hb:0≤r.rev∧r.rev<9007199254740992):om (oF (Ei o r)):=
 ⟨⟨h.1.1,h.1.2.1,ho.2.2.2.2.2.2⟩,uE (by show _≤r.rev+1;omega) (by show r.rev+1≤_;omega),ho.2.2.2.2.2.1,h.2.2.2⟩
theorem agY (t:List au) (A:Option Addr) (n cap:Nat) (o:aX) (p:Nat) (th:Bool) (w:World) (h:Cx w A n cap t o p th):
  Calls Tryz.prog 129 #[iV A n cap o p th] w (Bl w A n cap t (qJ (yO o) t o p th).1 (qJ (yO o) t o p th).2):=by
 have ho:=h.2.2.2.1;have lX:=ah h;clear h;have hb1:Below w.heap.size w (w.alloc (.cells (aW A n cap o p th) 117)):=ak _ _;have hb2:Below w.heap.size w ((w.alloc (.cells (aW A n cap o p th) 117)).alloc (.cells z4 43)):=hb1.alloc (by simp) _;have hwk:gX ((w.alloc (.cells (aW A n cap o p th) 117)).alloc (.cells z4 43)) w.heap.size A n cap o p th:=(gX.new w A n cap o p th).below (ak _ _);have hzb:aj ((w.alloc (.cells (aW A n cap o p th) 117)).alloc (.cells z4 43)) (w.heap.size+1) (.cells z4 43 (0,0)):=by have h:=aj.new (w.alloc (.cells (aW A n cap o p th) 117)) (.cells z4 43);rw[World.size_alloc]at h;exact h
 obtain⟨W0,hW0⟩:=aQ ((w.alloc (.cells (aW A n cap o p th) 117)).alloc (.cells z4 43));rw[hW0]at hb2 hwk hzb;clear hb1;have jq:Hid (gX W0 w.heap.size A n cap o p th):=hwk;clear hwk;have gQ:=ah hzb;clear hzb;have HB:=ah hb2;clear hb2;have dK:Hid (w.heap.size+1<W0.heap.size):=aj.lt gQ.out;unfold iV;have q:=ail 172 (yO o) t A n cap o p th w.heap.size W0 (lX.out.below HB.out) anj (arE o) (fun _=>rfl) (fun _=>rfl) (ant ho) jq.out;unfold iV at q;generalize(qJ (yO o) t o p th).1=U at*;generalize(qJ (yO o) t o p th).2=R at*;obtain⟨c0,c1,c2,c3,c4,c5,c6,c7,c8,c9⟩:=jq.out.cells;go_enter Tryz.func129,Tryz.ntmps129;go_wp2_with fail
 ((with_reducible refine q.mono ?_);rintro e W1 ⟨v,K,rfl,hpr,b1⟩)
 clear q c0 c1 c2 c3 c4 c5 c6 c7 c8 c9;obtain⟨Ak,ck,hK⟩:=xV hpr.2;subst hK;unfold bX;have hz1:=aj.below gQ.out b1;have HB1:=ah (aA HB.out b1);clear b1;have tY:=ah hpr;clear hpr;obtain⟨z0,z1,z2,z3⟩:=aY hz1;obtain⟨f0,f1,f2,f3⟩:=dX hz1;have hfin:=jI hz1 (.int .i64 R.errno) (.int .i64 R.rev) (.string R.value) (.slice Ak R.keys.length ck);obtain⟨e0,e1,e2,e3⟩:=aY hfin;have aU:=ah (jG (g:=(w.heap.size+1)) HB1.out (Nat.le_succ _) (.int .i64 R.errno) (.int .i64 R.rev) (.string R.value) (.slice Ak R.keys.length ck));have xg:=ah (wo.four tY.out hz1 (by decide) dK.out HB.out.size (.int .i64 R.errno) (.int .i64 R.rev) (.string R.value) (.slice Ak R.keys.length ck));clear hfin;go_wp2_with fail;refine bodyPost_ret (v:=.tuple #[v,.agg (aR R (.slice Ak R.keys.length ck))]) (by simp[results,Tryz.results129,go_sem,e0,e1,e2,e3]) rfl ⟨v,_,rfl,xg.out,aU.out⟩
def RF (t:List au) (o:aX) (p:Nat) (th:Bool):List au×dx:=if th then qJ (Ei o) t o p true else(t,gK 70)
theorem aqy (t:List au) (A:Option Addr) (n cap:Nat) (o:aX) (p:Nat) (th:Bool) (w:World) (h:Cx w A n cap t o p th):
  Calls Tryz.prog 132 #[iV A n cap o p th] w (Bl w A n cap t (RF t o p th).1 (RF t o p th).2):=by
 have ho:=h.2.2.2.1;have hcn:=h.1;have hts:=h.2.1;have lX:=ah h;clear h;have hb1:Below w.heap.size w (w.alloc (.cells (aW A n cap o p th) 117)):=ak _ _;have hb2:Below w.heap.size w ((w.alloc (.cells (aW A n cap o p th) 117)).alloc (.cells z4 43)):=hb1.alloc (by simp) _;have hwk:gX ((w.alloc (.cells (aW A n cap o p th) 117)).alloc (.cells z4 43)) w.heap.size A n cap o p th:=(gX.new w A n cap o p th).below (ak _ _);have hzb:aj ((w.alloc (.cells (aW A n cap o p th) 117)).alloc (.cells z4 43)) (w.heap.size+1) (.cells z4 43 (0,0)):=by have h:=aj.new (w.alloc (.cells (aW A n cap o p th) 117)) (.cells z4 43);rw[World.size_alloc]at h;exact h
 obtain⟨W0,hW0⟩:=aQ ((w.alloc (.cells (aW A n cap o p th) 117)).alloc (.cells z4 43));rw[hW0]at hb2 hwk hzb;clear hb1;have jq:Hid (gX W0 w.heap.size A n cap o p th):=hwk;clear hwk;have gQ:=ah hzb;clear hzb;have HB:=ah hb2;clear hb2;have dK:Hid (w.heap.size+1<W0.heap.size):=aj.lt gQ.out;unfold iV
 cases th with
 |false=>
  have q:=VJ t A n cap o p false 70 70 rfl W0 hcn (hts.below HB.out);unfold iV at q;clear ho hcn hts;obtain⟨c0,c1,c2,c3,c4,c5,c6,c7,c8,c9⟩:=jq.out.cells;go_enter Tryz.func132,Tryz.ntmps132;go_wp2_with fail
  ((with_reducible refine q.mono ?_);rintro e W1 ⟨rfl,b1⟩)
  clear q;have hz1:=aj.below gQ.out b1;have HB1:=ah (aA HB.out b1);clear b1;clear c0 c1 c2 c3 c4 c5 c6 c7 c8 c9;obtain⟨z0,z1,z2,z3⟩:=aY hz1;obtain⟨f0,f1,f2,f3⟩:=dX hz1;have hfin:=jI hz1 (.int .i64 70) (.int .i64 0) (.string ⟨#[]⟩) (.slice none 0 0);obtain⟨e0,e1,e2,e3⟩:=aY hfin;have aU:=ah (jG (g:=(w.heap.size+1)) HB1.out (Nat.le_succ _) (.int .i64 70) (.int .i64 0) (.string ⟨#[]⟩) (.slice none 0 0));clear hfin;go_wp2_with fail;refine bodyPost_ret (v:=.tuple #[.slice A n cap,.agg (bR 70 (.slice none 0 0))]) (by simp[results,Tryz.results132,go_sem,e0,e1,e2,e3]) rfl (Jd (r:=gK 70) rfl aU.out)
 |true=>
  clear hcn hts;have q:=ail 176 (Ei o) t A n cap o p true w.heap.size W0 (lX.out.below HB.out) anh (aqx o) (fun _=>rfl) (fun _=>rfl) (anr ho) jq.out;unfold iV at q;have hmu:RF t o p true=qJ (Ei o) t o p true:=rfl;rw[hmu];clear hmu;generalize(qJ (Ei o) t o p true).1=U at*;generalize(qJ (Ei o) t o p true).2=R at*;obtain⟨c0,c1,c2,c3,c4,c5,c6,c7,c8,c9⟩:=jq.out.cells;go_enter Tryz.func132,Tryz.ntmps132;go_wp2_with fail
  ((with_reducible refine q.mono ?_);rintro e W1 ⟨v,K,rfl,hpr,b1⟩)
  clear q c0 c1 c2 c3 c4 c5 c6 c7 c8 c9;obtain⟨Ak,ck,hK⟩:=xV hpr.2;subst hK;unfold bX;have hz1:=aj.below gQ.out b1;have HB1:=ah (aA HB.out b1);clear b1;have tY:=ah hpr;clear hpr;obtain⟨z0,z1,z2,z3⟩:=aY hz1;obtain⟨f0,f1,f2,f3⟩:=dX hz1;have hfin:=jI hz1 (.int .i64 R.errno) (.int .i64 R.rev) (.string R.value) (.slice Ak R.keys.length ck);obtain⟨e0,e1,e2,e3⟩:=aY hfin;have aU:=ah (jG (g:=(w.heap.size+1)) HB1.out (Nat.le_succ _) (.int .i64 R.errno) (.int .i64 R.rev) (.string R.value) (.slice Ak R.keys.length ck));have xg:=ah (wo.four tY.out hz1 (by decide) dK.out HB.out.size (.int .i64 R.errno) (.int .i64 R.rev) (.string R.value) (.slice Ak R.keys.length ck));clear hfin;go_wp2_with fail;refine bodyPost_ret (v:=.tuple #[v,.agg (aR R (.slice Ak R.keys.length ck))]) (by simp[results,Tryz.results132,go_sem,e0,e1,e2,e3]) rfl ⟨v,_,rfl,xg.out,aU.out⟩
def Ic (t:List au) (o:aX) (p:Nat) (th:Bool):List au×dx:=if Dn t p th=o.rev then qJ (yO o) t o p th else(t,⟨71,Dn t p th,⟨#[]⟩,[]⟩)
theorem amS (t:List au) (A:Option Addr) (n cap:Nat) (o:aX) (p:Nat) (th:Bool) (w:World) (h:Cx w A n cap t o p th):
  Calls Tryz.prog 131 #[iV A n cap o p th] w (Bl w A n cap t (Ic t o p th).1 (Ic t o p th).2):=by
 have hpt:th=true→p<t.length:=fun e=>by subst e;exact(FW h.2.2.2.2).1
 have hts:=h.2.1;have lX:=ah h;clear h;have hb1:Below w.heap.size w (w.alloc (.cells (aW A n cap o p th) 117)):=ak _ _;have hb2:Below w.heap.size w ((w.alloc (.cells (aW A n cap o p th) 117)).alloc (.cells z4 43)):=hb1.alloc (by simp) _;have hwk:gX ((w.alloc (.cells (aW A n cap o p th) 117)).alloc (.cells z4 43)) w.heap.size A n cap o p th:=(gX.new w A n cap o p th).below (ak _ _);have hzb:aj ((w.alloc (.cells (aW A n cap o p th) 117)).alloc (.cells z4 43)) (w.heap.size+1) (.cells z4 43 (0,0)):=by have h:=aj.new (w.alloc (.cells (aW A n cap o p th) 117)) (.cells z4 43);rw[World.size_alloc]at h;exact h
 obtain⟨W0,hW0⟩:=aQ ((w.alloc (.cells (aW A n cap o p th) 117)).alloc (.cells z4 43));rw[hW0]at hb2 hwk hzb;clear hb1;have jq:Hid (gX W0 w.heap.size A n cap o p th):=hwk;clear hwk;have gQ:=ah hzb;clear hzb;have HB:=ah hb2;clear hb2;have dK:Hid (w.heap.size+1<W0.heap.size):=aj.lt gQ.out;unfold iV;have qr:∀W,Below W0.heap.size W0 W→Calls Tryz.prog 175 #[iV A n cap o p th] W fun e w'=>e= .returned (.int .i64 (Dn t p th))∧Below W.heap.size W w':=fun W hb=>abt t A n cap o p th W (hts.below (aA HB.out hb)) hpt;unfold iV at qr;have Ot:Hid (Dn t p th=o.rev→Ic t o p th=qJ (yO o) t o p th):=fun e=>if_pos e;have HE2:Hid (Dn t p th≠o.rev→Ic t o p th=(t,⟨71,Dn t p th,⟨#[]⟩,[]⟩)):=fun e=>if_neg e;generalize Dn t p th=z at*;clear hpt hts;go_enter Tryz.func131,Tryz.ntmps131
 by_cases hz:z=o.rev
 ·have HE:=ah (Ot.out hz);have ez:(z != o.rev)=false:=by simp[hz]
  clear hz Ot HE2;go_upto_region 1 with fail;refine wp_region_noPanic ?_;refine wp_region_held_drew (S:=(fun W=>Below W0.heap.size W0 W)) (by kernel_rfl) ((Below.refl _ _).drew) (fun hHeld=>?_);refine ay 0 ?_ (hy:=fun w hSw=>by((try dsimp only at hSw);obtain⟨c0,c1,c2,c3,c4,c5,c6,c7,c8,c9⟩:=(jq.out.below hSw).cells;go_simp;(try with_reducible rfl)));refine ay 2 ?_;refine ay 3 ?_;refine ay 4 ?_ (hy:=fun w hSw=>by((try dsimp only at hSw);obtain⟨c0,c1,c2,c3,c4,c5,c6,c7,c8,c9⟩:=(jq.out.below hSw).cells;go_simp;(try with_reducible rfl)));refine bH 1 fun K hK=>?_;go_simp
  ((with_reducible refine(qr _ hHeld).mono ?_);rintro e V1 ⟨rfl,bq⟩)
  refine hK.out _ _ (aA hHeld bq) fun hHeld=>?_;clear hK K;refine ay 5 ?_;refine wpAnyH_done (by kernel_rfl) ?_ _;refine NoPanic.normal ?_;have hh:=hHeld;clear hHeld;obtain⟨c0,c1,c2,c3,c4,c5,c6,c7,c8,c9⟩:=(jq.out.below hh).cells;have q:=agY t A n cap o p th V1 (lX.out.below (aA HB.out hh));unfold iV at q;rw[←HE.out]at q;generalize(Ic t o p th).1=U at*;generalize(Ic t o p th).2=R at*;have HH:=ah hh;clear hh;go_wp2_with fail
  ((with_reducible refine q.mono ?_);rintro e W1 ⟨v,K,rfl,hpr,b1⟩)
  clear q c0 c1 c2 c3 c4 c5 c6 c7 c8 c9;have HBH:=ah (aA HB.out HH.out);have HZH:=ah (aj.below gQ.out HH.out);have nA:=ah (Nat.lt_of_lt_of_le dK.out HH.out.size);obtain⟨Ak,ck,hK⟩:=xV hpr.2;subst hK;unfold bX;have hz1:=aj.below HZH.out b1;have HB1:=ah (aA HBH.out b1);clear b1;have tY:=ah hpr;clear hpr;obtain⟨z0,z1,z2,z3⟩:=aY hz1;obtain⟨f0,f1,f2,f3⟩:=dX hz1;have hfin:=jI hz1 (.int .i64 R.errno) (.int .i64 R.rev) (.string R.value) (.slice Ak R.keys.length ck);obtain⟨e0,e1,e2,e3⟩:=aY hfin;have aU:=ah (jG (g:=(w.heap.size+1)) HB1.out (Nat.le_succ _) (.int .i64 R.errno) (.int .i64 R.rev) (.string R.value) (.slice Ak R.keys.length ck));have xg:=ah (wo.four tY.out hz1 (by decide) nA.out HBH.out.size (.int .i64 R.errno) (.int .i64 R.rev) (.string R.value) (.slice Ak R.keys.length ck));clear hfin;go_wp2_with fail;refine bodyPost_ret (v:=.tuple #[v,.agg (aR R (.slice Ak R.keys.length ck))]) (by simp[results,Tryz.results131,go_sem,e0,e1,e2,e3]) rfl ⟨v,_,rfl,xg.out,aU.out⟩
 ·have HE:=ah (HE2.out hz);have ez:(z != o.rev)=true:=by simpa using hz
  clear hz Ot HE2;go_upto_region 1 with fail;refine wp_region_noPanic ?_;refine wp_region_held_drew (S:=(fun W=>Below W0.heap.size W0 W)) (by kernel_rfl) ((Below.refl _ _).drew) (fun hHeld=>?_);refine ay 0 ?_ (hy:=fun w hSw=>by((try dsimp only at hSw);obtain⟨c0,c1,c2,c3,c4,c5,c6,c7,c8,c9⟩:=(jq.out.below hSw).cells;go_simp;(try with_reducible rfl)));refine ay 2 ?_;refine ay 3 ?_;refine ay 4 ?_ (hy:=fun w hSw=>by((try dsimp only at hSw);obtain⟨c0,c1,c2,c3,c4,c5,c6,c7,c8,c9⟩:=(jq.out.below hSw).cells;go_simp;(try with_reducible rfl)));refine bH 1 fun K hK=>?_;go_simp
  ((with_reducible refine(qr _ hHeld).mono ?_);rintro e V1 ⟨rfl,bq⟩)
  refine hK.out _ _ (aA hHeld bq) fun hHeld=>?_;clear hK K;refine ay 5 ?_;refine wpAnyH_done (by kernel_rfl) ?_ _;refine NoPanic.normal ?_;have HH:=ah hHeld;clear hHeld;go_upto_region 2 with fail;refine wp_region_noPanic ?_;refine Du (S:=(fun W=>Below W0.heap.size W0 W)) [6] (by kernel_rfl) (HH.out.drew) (fun hHeld=>?_);refine dA 0 ?_;refine dA 1 ?_ (hy:=fun w hSw=>by((try dsimp only at hSw);obtain⟨c0,c1,c2,c3,c4,c5,c6,c7,c8,c9⟩:=(jq.out.below hSw).cells;go_simp;(try with_reducible rfl)));refine dA 2 ?_ (hy:=fun w hSw=>by((try dsimp only at hSw);obtain⟨c0,c1,c2,c3,c4,c5,c6,c7,c8,c9⟩:=(jq.out.below hSw).cells;go_simp;(try with_reducible rfl)));refine qH 3 fun K hK=>?_;go_simp
  ((with_reducible refine(qr _ hHeld).mono ?_);rintro e V3 ⟨rfl,bq⟩)
  refine hK.out _ _ (aA hHeld bq) fun hHeld=>?_;clear hK K;have hz3:=aj.below gQ.out hHeld;have HB3:=ah (aA HB.out hHeld);obtain⟨z0,z1,z2,z3⟩:=aY hz3;obtain⟨f0,f1,f2,f3⟩:=dX hz3;refine dA 4 ?_;refine dA 5 ?_;refine wQ (rs:=[6]) (by kernel_rfl) (by simp) ?_;refine jA.last rfl (by kernel_rfl) (fun K hK=>?_) jA.nil;rw[if_pos (by rfl)];go_simp;refine hK.out _ _ (trivial) fun hHeld=>?_;clear hK K;refine Dt (by kernel_rfl) ?_ _;refine NoPanic.normal ?_;have hfin:=jI hz3 (.int .i64 71) (.int .i64 z) (.string ⟨#[]⟩) (.slice none 0 0);obtain⟨e0,e1,e2,e3⟩:=aY hfin;have aU:=ah (jG (g:=(w.heap.size+1)) HB3.out (Nat.le_succ _) (.int .i64 71) (.int .i64 z) (.string ⟨#[]⟩) (.slice none 0 0));clear hfin;go_wp2_with fail;refine bodyPost_ret (v:=.tuple #[.slice A n cap,.agg #[.int .i64 71,.int .i64 z,.string ⟨#[]⟩,.slice none 0 0]]) (by simp[results,Tryz.results131,go_sem,e0,e1,e2,e3]) rfl (by rw[HE.out];exact Jd (r:=⟨71,z,⟨#[]⟩,[]⟩) rfl aU.out)
def VK (t:List au) (p:Nat) (th:Bool):List au×dx:=if th then(t.eraseIdx p,⟨0,(atR t p).rev,⟨#[]⟩,[]⟩)else(t,gK 70)
theorem asl (t:List au) (A:Option Addr) (n cap:Nat) (o:aX) (p:Nat) (th:Bool) (w:World) (h:Cx w A n cap t o p th):
  Calls Tryz.prog 130 #[iV A n cap o p th] w (Bl w A n cap t (VK t p th).1 (VK t p th).2):=by
 have hcn:=h.1;have hts:=h.2.1;have hpl:=h.2.2.2.2;have hrt:=h.2.2.1;clear h;have hb1:Below w.heap.size w (w.alloc (.cells (aW A n cap o p th) 117)):=ak _ _;have hb2:Below w.heap.size w ((w.alloc (.cells (aW A n cap o p th) 117)).alloc (.cells z4 43)):=hb1.alloc (by simp) _;have hwk:gX ((w.alloc (.cells (aW A n cap o p th) 117)).alloc (.cells z4 43)) w.heap.size A n cap o p th:=(gX.new w A n cap o p th).below (ak _ _);have hzb:aj ((w.alloc (.cells (aW A n cap o p th) 117)).alloc (.cells z4 43)) (w.heap.size+1) (.cells z4 43 (0,0)):=by have h:=aj.new (w.alloc (.cells (aW A n cap o p th) 117)) (.cells z4 43);rw[World.size_alloc]at h;exact h
 obtain⟨W0,hW0⟩:=aQ ((w.alloc (.cells (aW A n cap o p th) 117)).alloc (.cells z4 43));rw[hW0]at hb2 hwk hzb;clear hb1;have jq:Hid (gX W0 w.heap.size A n cap o p th):=hwk;clear hwk;have gQ:=ah hzb;clear hzb;have HB:=ah hb2;clear hb2;have dK:Hid (w.heap.size+1<W0.heap.size):=aj.lt gQ.out;unfold iV
 cases th with
 |false=>
  have q:=VJ t A n cap o p false 70 70 rfl W0 hcn (hts.below HB.out);unfold iV at q;clear hcn hts hpl hrt;obtain⟨c0,c1,c2,c3,c4,c5,c6,c7,c8,c9⟩:=jq.out.cells;go_enter Tryz.func130,Tryz.ntmps130;go_wp2_with fail
  ((with_reducible refine q.mono ?_);rintro e W1 ⟨rfl,b1⟩)
  clear q;have hz1:=aj.below gQ.out b1;have HB1:=ah (aA HB.out b1);clear b1;clear c0 c1 c2 c3 c4 c5 c6 c7 c8 c9;obtain⟨z0,z1,z2,z3⟩:=aY hz1;obtain⟨f0,f1,f2,f3⟩:=dX hz1;have hfin:=jI hz1 (.int .i64 70) (.int .i64 0) (.string ⟨#[]⟩) (.slice none 0 0);obtain⟨e0,e1,e2,e3⟩:=aY hfin;have aU:=ah (jG (g:=(w.heap.size+1)) HB1.out (Nat.le_succ _) (.int .i64 70) (.int .i64 0) (.string ⟨#[]⟩) (.slice none 0 0));clear hfin;go_wp2_with fail;refine bodyPost_ret (v:=.tuple #[.slice A n cap,.agg (bR 70 (.slice none 0 0))]) (by simp[results,Tryz.results130,go_sem,e0,e1,e2,e3]) rfl (Jd (r:=gK 70) rfl aU.out)
 |true=>
  have HN:Hid (n=t.length):=hts.1;have hpt:=(FW hpl).1;have hpn:p<n:=by have:=HN.out;omega
  have h20:n≤20:=by have:=HN.out;have:=hrt.2.2;omega
  have HT:=ah hts;clear hts hpl hcn hrt;have qc:∀W,Below W0.heap.size W0 W→Calls Tryz.prog 174 #[.slice A n cap] W (PW W t):=fun W hb=>aeM t A n cap W (HT.out.below (aA HB.out hb)) (by omega);have qr:∀W,Below W0.heap.size W0 W→Calls Tryz.prog 175 #[iV A n cap o p true] W fun e w'=>e= .returned (.int .i64 (atR t p).rev)∧Below W.heap.size W w':=fun W hb=>abt t A n cap o p true W (HT.out.below (aA HB.out hb)) (fun _=>hpt);unfold iV at qr;have HE:Hid (VK t p true=(t.eraseIdx p,⟨0,(atR t p).rev,⟨#[]⟩,[]⟩)):=rfl;generalize(atR t p).rev=z at*;clear hpt;have hwp:IntKind.i64.wrap ((p:Int)+1)=(p:Int)+1:=IntWalk.i64_in _ (by omega);obtain⟨c0,c1,c2,c3,c4,c5,c6,c7,c8,c9⟩:=jq.out.cells;go_enter Tryz.func130,Tryz.ntmps130;go_upto_region 3 with fail;clear c0 c1 c2 c3 c4 c5 c6 c7 c8 c9;refine wp_region_noPanic ?_;refine Du (S:=(fun W=>Below W0.heap.size W0 W)) [13] (by kernel_rfl) ((Below.refl _ _).drew) (fun hHeld=>?_);refine dA 0 ?_;refine dA 1 ?_ (hy:=fun w hSw=>by((try dsimp only at hSw);obtain⟨c0,c1,c2,c3,c4,c5,c6,c7,c8,c9⟩:=(jq.out.below hSw).cells;go_simp;(try with_reducible rfl)));refine dA 3 ?_;refine dA 4 ?_ (hy:=fun w hSw=>by((try dsimp only at hSw);obtain⟨c0,c1,c2,c3,c4,c5,c6,c7,c8,c9⟩:=(jq.out.below hSw).cells;go_simp;(try with_reducible rfl)));refine dA 5 ?_;refine dA 6 ?_ (hy:=fun w hSw=>by((try dsimp only at hSw);obtain⟨c0,c1,c2,c3,c4,c5,c6,c7,c8,c9⟩:=(jq.out.below hSw).cells;go_simp;(try with_reducible rfl)));refine dA 7 ?_;refine dA 9 ?_ (hy:=fun w hSw=>by((try dsimp only at hSw);obtain⟨c0,c1,c2,c3,c4,c5,c6,c7,c8,c9⟩:=(jq.out.below hSw).cells;go_simp;(try with_reducible rfl)));refine qH 2 fun K hK=>?_;go_simp
  ((with_reducible refine(qc _ hHeld).mono ?_);rintro e V1 ⟨v1,l,rfl,vC,aaC,afF,bq⟩)
  have HHS:Hid (W0.heap.size≤_):=hHeld.size;obtain⟨A1,dP,hv1,hcp1,aaG⟩:=vC.parts;have gN:Hid (l.length=n):=by have:=congrArg List.length aaC;rw[List.length_map]at this;show _=_;have:=HN.out;omega
  rw[gN.out]at hv1;subst hv1;clear aaG hcp1;refine hK.out _ _ (aA hHeld bq) fun hHeld=>?_;clear hK K;have HR1:Hid (bf V1 W0.heap.size (.slice A1 n dP) l):=bf.base HHS.out vC;have jl:=ah afF;have yw:=ah aaC;clear vC afF aaC;have hdel:=an4 l A1 n dP p W0.heap.size V1 HR1.out gN.out.symm hpn h20 jl.out.sl;have hlt1:=HR1.out.lt;refine qH 8 fun K hK=>?_;go_simp
  ((with_reducible refine(hdel).mono ?_);rintro e V2 ⟨v2,rfl,hrow2,aar⟩)
  have iR:=ah ((afb p jl.out).kept aar HR1.out.block);have HR2:=ah hrow2;refine hK.out _ _ (hHeld.grown aar hHeld.size (fun k hk=>(hlt1 k hk).1)) fun hHeld=>?_;clear hK K;clear hdel hlt1 aar hrow2;refine qH 10 fun K hK=>?_;go_simp
  ((with_reducible refine(qr _ hHeld).mono ?_);rintro e V3 ⟨rfl,Ib⟩)
  have jP:=ah (iR.out.below Ib);have HR3:=ah (HR2.out.below Ib);refine hK.out _ _ (aA hHeld Ib) fun hHeld=>?_;clear hK K;clear Ib;have hz3:=aj.below gQ.out hHeld;have HB3:=ah (aA HB.out hHeld);obtain⟨z0,z1,z2,z3⟩:=aY hz3;obtain⟨f0,f1,f2,f3⟩:=dX hz3;refine dA 11 ?_;refine dA 12 ?_;refine wQ (rs:=[13]) (by kernel_rfl) (by simp) ?_;refine jA.last rfl (by kernel_rfl) (fun K hK=>?_) jA.nil;rw[if_pos (by rfl)];go_simp;refine hK.out _ _ (trivial) fun hHeld=>?_;clear hK K;refine Dt (by kernel_rfl) ?_ _;refine NoPanic.normal ?_;have zB:Hid ((l.take p++l.drop (p+1)).map Prod.fst=t.eraseIdx p):=by show _=_;rw[←yw.out,List.eraseIdx_eq_take_drop_succ,List.map_append,List.map_take,List.map_drop]
  have hfin:=jI hz3 (.int .i64 0) (.int .i64 z) (.string ⟨#[]⟩) (.slice none 0 0);obtain⟨e0,e1,e2,e3⟩:=aY hfin;have aU:=ah (jG (g:=(w.heap.size+1)) HB3.out (Nat.le_succ _) (.int .i64 0) (.int .i64 z) (.string ⟨#[]⟩) (.slice none 0 0));have xg:=ah (wo.four (w:=w) (u:=t.eraseIdx p) (t:=t) (A0:=A) (n0:=n) (cap0:=cap) (ks:=[]) (K:=.slice none 0 0) ⟨.inr ⟨_,HR3.out,jP.out,zB.out⟩,nI _ _⟩ hz3 (by decide) dK.out HB.out.size (.int .i64 0) (.int .i64 z) (.string ⟨#[]⟩) (.slice none 0 0));clear hfin;go_wp2_with fail;refine bodyPost_ret (v:=.tuple #[v2,.agg #[.int .i64 0,.int .i64 z,.string ⟨#[]⟩,.slice none 0 0]]) (by simp[results,Tryz.results130,go_sem,e0,e1,e2,e3]) rfl (by rw[HE.out];exact⟨v2,_,rfl,xg.out,aU.out⟩)
theorem auz {w:World} {A X:Option Addr} {n cap p:Nat} {t:List au} (h:gW w A n t) (hp:p≤n) (hc:n≤cap) (hX:(if cap=p then A else Option.map (fun x=>x.add (p*6)) A)=X):gW w X (n-p) (t.drop p):=by
 obtain⟨h1,h2,h3,h4⟩:=h;refine⟨by rw[List.length_drop,h1],by omega,fun r hr=>h3 r (List.mem_of_mem_drop hr),fun hn=>?_⟩;obtain⟨b,off,hA,hb,hat⟩:=h4 (by omega);rw[if_neg (by omega),hA]at hX;refine⟨b,off+p*6,by rw[←hX];simp[addr_add],hb,fun i hi=>?_⟩;rw[List.length_drop]at hi;have e:atR (t.drop p) i=atR t (p+i):=by unfold atR;rw[List.getD_eq_getElem?_getD,List.getD_eq_getElem?_getD,List.getElem?_drop]
 have:=hat (p+i) (by omega);rw[e,show off+p*6+i*6=off+(p+i)*6 by omega];exact this
def xU (o:aX) (k:ByteArray):Bool:=decide (o.upto.size=0)||fM k o.upto
theorem aea (t:List au) (p i:Nat):atR (t.drop p) i=atR t (p+i):=by unfold atR;rw[List.getD_eq_getElem?_getD,List.getD_eq_getElem?_getD,List.getElem?_drop]
theorem abH {t:List au} {o:aX} {p j:Nat} {th:Bool} (hr:jN t) (hp:Ct t o.key p th) (hj:j≤(t.drop p).length) (h5:j≤5) (hok:∀i,i<j→xU o (atR (t.drop p) i).key=true)
  (he:j=(t.drop p).length∨j=5∨xU o (atR (t.drop p) j).key=false):((t.drop p).take j).map (·.key)=jh t o:=by
 obtain⟨hp0,hp1,hp2,_⟩:=hp;have hin:∀i,i<(t.drop p).length→pO o (atR (t.drop p) i).key=xU o (atR (t.drop p) i).key:=fun i hi=>by
  rw[aea];rw[List.length_drop]at hi;unfold pO xU;rw[hp2 (p+i) (by omega) (by omega)];rfl
 have h1:(t.take p).filter (fun r=>pO o r.key)=[]:=List.filter_eq_nil_iff.2 fun r hr2=>by
  obtain⟨i,hi,rfl⟩:=List.getElem_of_mem hr2;rw[List.length_take]at hi;have:=hp1 i (by omega);rw[jw (by omega)]at this;rw[List.getElem_take];unfold pO;rw[this];simp
 have h2:((t.drop p).take j).filter (fun r=>pO o r.key)=(t.drop p).take j:=List.filter_eq_self.2 fun r hr2=>by
  obtain⟨i,hi,rfl⟩:=List.getElem_of_mem hr2;rw[List.length_take]at hi;have a1:=hok i (by omega);rw[←hin i (by omega),jw (by omega)]at a1;rw[List.getElem_take];exact a1
 have hl:((t.drop p).take j).length=j:=by rw[List.length_take];omega
 have hs:t.filter (fun r=>pO o r.key)=(t.drop p).take j++((t.drop p).drop j).filter (fun r=>pO o r.key):=by
  have e1:t.filter (fun r=>pO o r.key)=(t.take p).filter (fun r=>pO o r.key)++(t.drop p).filter (fun r=>pO o r.key):=by rw[←List.filter_append,List.take_append_drop]
  have e2:(t.drop p).filter (fun r=>pO o r.key)=((t.drop p).take j).filter (fun r=>pO o r.key)++((t.drop p).drop j).filter (fun r=>pO o r.key):=by rw[←List.filter_append,List.take_append_drop]
  rw[e1,h1,List.nil_append,e2,h2]
 have Er:((t.drop p).take j).take 5=(t.drop p).take j:=List.take_of_length_le (by rw[hl];exact h5);unfold jh;rw[hs];rcases he with h|h|h
 ·rw[List.drop_of_length_le (by omega:(t.drop p).length≤j),List.filter_nil,List.append_nil,Er]
 ·rw[List.take_left' (by rw[hl,h])]
 ·by_cases hjl:j<(t.drop p).length
  ·have h3:((t.drop p).drop j).filter (fun r=>pO o r.key)=[]:=List.filter_eq_nil_iff.2 fun r hr2=>by
    obtain⟨i,hi,rfl⟩:=List.getElem_of_mem hr2;rw[List.length_drop]at hi;have e3:((t.drop p).drop j)[i]=atR (t.drop p) (j+i):=by rw[List.getElem_drop,jw (by omega)]
    rw[e3,hin _ (by omega)];unfold xU at h ⊢;rw[Bool.or_eq_false_iff]at h;rw[h.1,Bool.false_or];rcases Nat.eq_zero_or_pos i with h0|h0
    ·subst h0;rw[Nat.add_zero,h.2];simp
    ·cases e4:fM (atR (t.drop p) (j+i)).key o.upto with
     |false=>simp
     |true=>
      have a1:=F3 hr (i:=p+j) (j:=p+(j+i)) (by omega) (by simp only[List.length_drop]at hi hjl;omega);rw[aea]at e4 h;rw[lt_trans a1 e4]at h
      cases h.2
   rw[h3,List.append_nil,Er]
  ·rw[List.drop_of_length_le (by omega:(t.drop p).length≤j),List.filter_nil,List.append_nil,Er]
theorem auZ {w:World} {ops:Array Oper} {rest:List Oper} {o:Oper} {a:Act} {Q:Exit→Act→World→Prop} (hgd:o.guard=none) (s x:Operand)
  (ho:o.op= .call { callee:=.builtin .append,args:=#[s,x],argTypes:=#[41,41] })
  (base:Nat) (v:Value) (l:List ByteArray) (hs:a.eval s=v) (hown:RowK w base v l)
  (b c:Nat) (k:ByteArray) (hx:a.eval x= .slice (some ⟨b,0,none⟩) 1 c) (hf:w.cell? ⟨b,0,none⟩=some (.string k))
  (h63:l.length≤1000) (hbase:base≤w.heap.size)
  (h:∀A2 cap2 w',RowK w' base (.slice A2 (l.length+1) cap2) (l++[k])→w.grownBy w' v.ownBlock→wpList Tryz.prog ops Q rest (a.put o.dst (.slice A2 (l.length+1) cap2)) w'):
  wpList Tryz.prog ops Q (o::rest) a w:=by
 refine wpList_plain hgd fun K hK=>?_;have q:=ahS (ops:=ops) (K:=K) (Q:=Q) (E:=False) hgd s x ho base v l hs hown b c k hx hf h63 hbase (fun A2 cap2 w' h1 h2=>hK _ _ (h A2 cap2 w' h1 h2));rw[if_pos (by simp[Region.wanted,hgd])]at q;exact q
theorem as4 (t:List au) (A:Option Addr) (n cap:Nat) (o:aX) (p:Nat) (th:Bool) (w:World) (h:Cx w A n cap t o p th):
  Calls Tryz.prog 133 #[iV A n cap o p th] w (Bl w A n cap t t ⟨0,0,⟨#[]⟩,jh t o⟩):=by
 have HR:=ah h.2.2.1.rise;have jk:=ah h.2.2.2.2;have hts:=h.2.1;have hcn:=h.1;have h20:n≤20:=by have:=hts.1;have:=h.2.2.1.2.2;omega
 have hpn:p≤n:=by have:=hts.1;have:=jk.out.1;omega
 clear h;obtain⟨X,hX⟩:∃X,(if cap=p then A else Option.map (fun x=>x.add (p*6)) A)=X:=⟨_,rfl⟩;have hd0:=auz hts hpn hcn hX;have EN:Hid ((t.drop p).length=n-p):=hd0.1.symm;have hb1:Below w.heap.size w (w.alloc (.cells (aW A n cap o p th) 117)):=ak _ _;have hb2:Below w.heap.size w ((w.alloc (.cells (aW A n cap o p th) 117)).alloc (.cells z4 43)):=hb1.alloc (by simp) _;have hwk:gX ((w.alloc (.cells (aW A n cap o p th) 117)).alloc (.cells z4 43)) w.heap.size A n cap o p th:=(gX.new w A n cap o p th).below (ak _ _);have hzb:aj ((w.alloc (.cells (aW A n cap o p th) 117)).alloc (.cells z4 43)) (w.heap.size+1) (.cells z4 43 (0,0)):=by have h:=aj.new (w.alloc (.cells (aW A n cap o p th) 117)) (.cells z4 43);rw[World.size_alloc]at h;exact h
 obtain⟨W0,hW0⟩:=aQ ((w.alloc (.cells (aW A n cap o p th) 117)).alloc (.cells z4 43));rw[hW0]at hb2 hwk hzb;clear hb1;have jq:Hid (gX W0 w.heap.size A n cap o p th):=hwk;clear hwk;have gQ:=ah hzb;clear hzb;have HB:=ah hb2;clear hb2;have dK:Hid (w.heap.size+1<W0.heap.size):=aj.lt gQ.out;unfold iV;have HD:=ah (hd0.below HB.out);clear hd0 hts;have hp0:(0:Int)≤(p:Int):=by omega
 have hp1:(p:Int)≤(n:Int):=by omega
 obtain⟨c0,c1,c2,c3,c4,c5,c6,c7,c8,c9⟩:=jq.out.cells;go_enter Tryz.func133,Tryz.ntmps133;go_wp2_with fail;go_loopw [4,13] (fun kv' i wy=>∃(j:Nat) (wr:World) (kv:Value),wr=wy∧kv'=kv∧j≤n-p∧j≤5∧i= .int .i64 j∧RowK wr W0.heap.size kv (((t.drop p).take j).map (·.key))∧(∀q,q<j→xU o (atR (t.drop p) q).key=true)∧Below W0.heap.size W0 wr) (fun _ i _=>n-p-(intOf i).toNat)
 case atStart=>exact⟨0,_,_,rfl,rfl,by omega,by omega,rfl,nI _ _,(fun q hq=>by omega),Below.refl _ _⟩
 case round=>
  clear c0 c1 c2 c3 c4 c5 c6 c7 c8 c9;obtain⟨j,wr,kv,rfl,rfl,hj,hj5,rfl,U8,hok,hb⟩:=hrel;obtain⟨kk,hkk⟩:∃kk,((t.drop p).take j).map (·.key)=kk:=⟨_,rfl⟩;have HKK:=ah hkk;rw[hkk]at U8;clear hkk;obtain⟨Ak,ck,hkv⟩:=xV U8;have qM:Hid (kk.length=j):=by show _=_;rw[←HKK.out,List.length_map,List.length_take];have:=EN.out;omega
  rw[qM.out]at hkv;have HKV:=ah hkv;have oW:=ah U8;clear U8;have lX:=ah hok;clear hok;have bU:=ah hb;clear hb
  by_cases hlt:j<n-p
  ·obtain⟨b,off,UY,_⟩:=HD.out.block (by omega);have Ea:=ah UY;subst UY;obtain⟨E,m,c,hx,_,_⟩:=HD.out.at (i:=j) (by have:=EN.out;omega) bU.out;obtain⟨x0,x1,x2,x3,x4,x5⟩:=hx;have Mh:Hid ((t.drop p).take (j+1)=(t.drop p).take j++[atR (t.drop p) j]):=NY (by have:=EN.out;omega);have Yc:Hid (∀v,xU o (atR (t.drop p) j).key=v→xU o (atR (t.drop p) j).key=v):=fun v h=>h;have hji:(j:Int)<((n-p:Nat):Int):=by omega
   have hj0:(0:Int)≤(j:Int):=by omega
   obtain⟨r,hr0⟩:∃r,atR (t.drop p) j=r:=⟨_,rfl⟩;rw[hr0]at x0 x1 x2 x3 x4 Mh Yc;have HRR:=ah hr0;clear hr0;have hb1:Below wr.heap.size wr (wr.alloc (.cells (aC r (.slice E m c)) 68)):=ak _ _;have hrb:=aj.new wr (.cells (aC r (.slice E m c)) 68);subst hkv;go_upto_region 5 with fail;clear x0 x1 x2 x3 x4 x5;obtain⟨V,hV⟩:∃V,wr.alloc (.cells (aC r (.slice E m c)) 68)=V:=⟨_,rfl⟩;rw[hV]at hb1 hrb ⊢;clear hV;have eT:=ah (aA bU.out hb1);have qg:Hid (RowK V W0.heap.size (.slice Ak j ck) kk):=oW.out.below hb1;clear hb1;have y0:=aj.cell hrb 0;simp only[aM]at y0;have mQ:=ah hrb;clear hrb;obtain⟨c0,c1,c2,c3,c4,c5,c6,c7,c8,c9⟩:=(jq.out.below eT.out).cells
   by_cases h5:j=5
   ·have e5:((j:Int)==5)=true:=by simp;omega
    have H5:=ah h5;clear h5;clear c0 c1 c2 c3 c4 c5 c6 c7 c8 c9;have HE:Hid (((t.drop p).take j).map (·.key)=jh t o):=abH HR.out jk.out (by have:=EN.out;omega) (by omega) lX.out (.inr (.inl H5.out));have Dh:=qg.out;rw[←HKK.out,HE.out]at Dh;have xq:=ah Dh;clear Dh;have hzx:=aj.below gQ.out eT.out;have vQ:=ah (aA HB.out eT.out);obtain⟨c0,c1,c2,c3,c4,c5,c6,c7,c8,c9⟩:=(jq.out.below eT.out).cells;obtain⟨z0,z1,z2,z3⟩:=aY hzx;obtain⟨f0,f1,f2,f3⟩:=dX hzx;have hfin:=jI hzx (.int .i64 0) (.int .i64 0) (.string ⟨#[]⟩) (.slice Ak j ck);obtain⟨e0,e1,e2,e3⟩:=aY hfin;have aU:=ah (jG (g:=(w.heap.size+1)) vQ.out (Nat.le_succ _) (.int .i64 0) (.int .i64 0) (.string ⟨#[]⟩) (.slice Ak j ck));have xg:=ah (wo.four (w:=w) (u:=t) (t:=t) (A0:=A) (n0:=n) (cap0:=cap) (ks:=jh t o) (K:=(.slice Ak j ck)) ⟨.inl ⟨rfl,rfl⟩,xq.out⟩ hzx (by decide) dK.out HB.out.size (.int .i64 0) (.int .i64 0) (.string ⟨#[]⟩) (.slice Ak j ck));clear hfin;go_wp2_with fail;refine bodyPost_ret (v:=.tuple #[.slice A n cap,.agg (bR 0 (.slice Ak j ck))]) (by simp[results,Tryz.results133,go_sem,e0,e1,e2,e3]) rfl ⟨_,_,rfl,xg.out,aU.out⟩
   ·have e5:((j:Int)==5)=false:=by simp;omega
    have hj4:j<5:=by omega
    have hcase:(xU o r.key=true∧(o.upto.toList=[]∨(o.upto.toList.isEmpty=false∧o.upto.toList≠[])∧(!Go.Op.bytesLess r.key.toList o.upto.toList)=false))∨(xU o r.key=false∧(o.upto.toList.isEmpty=false∧o.upto.toList≠[])∧(!Go.Op.bytesLess r.key.toList o.upto.toList)=true):=by
     by_cases hu:o.upto.size=0
     ·exact .inl ⟨by unfold xU;simp[hu],.inl ((pX _).2 hu)⟩
     ·have hu2:o.upto.toList≠[]:=fun h2=>hu ((pX _).1 h2);have hu3:o.upto.toList.isEmpty=false:=by rw[Bool.eq_false_iff];intro h2;exact hu2 (by simpa using h2)
      cases hl:fM r.key o.upto with
      |true=>exact .inl ⟨by unfold xU;rw[hl];simp,.inr ⟨⟨hu3,hu2⟩,by rw[show Go.Op.bytesLess r.key.toList o.upto.toList=true from hl];rfl⟩⟩
      |false=>exact .inr ⟨by unfold xU;rw[hl];simp[hu],⟨hu3,hu2⟩,by rw[show Go.Op.bytesLess r.key.toList o.upto.toList=false from hl];rfl⟩
    rcases hcase with⟨hok1,hcs⟩|⟨hok1,⟨u1,u2⟩,u3⟩
    ·have eZ:Hid (xU o (atR (t.drop p) j).key=true):=by show _=_;rw[HRR.out];exact hok1
     clear hok1 Yc;have HCS:=ah hcs;clear hcs;have hcut:∀(P:Prop),((o.upto.toList=[])→P)→((o.upto.toList.isEmpty=false∧o.upto.toList≠[])∧(!Go.Op.bytesLess r.key.toList o.upto.toList)=false→P)→P:=fun P h1 h2=>HCS.out.elim h1 h2;rcases HCS.out with u1|⟨⟨u1,u2⟩,u3⟩
     all_goals
      clear hcut;have hb2:Below V.heap.size V (V.alloc (.cells #[.string r.key] 9)):=ak _ _;have aaJ:=qg.out.below hb2;have hk0:(V.alloc (.cells #[.string r.key] 9)).cell? ⟨V.heap.size,0,none⟩=some (.string r.key):=cell_one_new V _ _;have hsz2:W0.heap.size≤(V.alloc (.cells #[.string r.key] 9)).heap.size:=Nat.le_trans eT.out.size hb2.size;have HB2:=ah (aA eT.out hb2);clear hb2;go_wp2_with (at_builtin;refine auZ rfl _ _ rfl W0.heap.size _ _ rfl aaJ V.heap.size 1 r.key rfl hk0 (by have:=qM.out;omega) hsz2 ?_);intro A3 rE V3 hrow3 afK;rw[qM.out]at hrow3 ⊢;have hlt3:=aaJ.lt;have HB3:Hid (Below W0.heap.size W0 V3):=HB2.out.grown afK HB2.out.size (fun k hk=>(hlt3 k hk).1);have HR3:=ah hrow3;clear hrow3 afK hlt3 aaJ hk0 hsz2 c0 c1 c2 c3 c4 c5 c6 c7 c8 c9 y0;go_wp2_with fail;go_roundw
      case rel=>exact⟨j+1,_,_,rfl,rfl,by omega,by omega,by go_num,by rw[Mh.out,List.map_append,HKK.out];exact HR3.out,fun q hq=>by rcases(by omega:q<j∨q=j)with h|rfl;exact lX.out q h;exact eZ.out,HB3.out⟩
      case measure=>simp[intOf];omega
    ·have eZ:Hid (xU o (atR (t.drop p) j).key=false):=by show _=_;rw[HRR.out];exact hok1
     clear hok1 Yc;clear c0 c1 c2 c3 c4 c5 c6 c7 c8 c9;have HE:Hid (((t.drop p).take j).map (·.key)=jh t o):=abH HR.out jk.out (by have:=EN.out;omega) (by omega) lX.out (.inr (.inr eZ.out));have Dh:=qg.out;rw[←HKK.out,HE.out]at Dh;have xq:=ah Dh;clear Dh;have hzx:=aj.below gQ.out eT.out;have vQ:=ah (aA HB.out eT.out);obtain⟨c0,c1,c2,c3,c4,c5,c6,c7,c8,c9⟩:=(jq.out.below eT.out).cells;obtain⟨z0,z1,z2,z3⟩:=aY hzx;obtain⟨f0,f1,f2,f3⟩:=dX hzx;have hfin:=jI hzx (.int .i64 0) (.int .i64 0) (.string ⟨#[]⟩) (.slice Ak j ck);obtain⟨e0,e1,e2,e3⟩:=aY hfin;have aU:=ah (jG (g:=(w.heap.size+1)) vQ.out (Nat.le_succ _) (.int .i64 0) (.int .i64 0) (.string ⟨#[]⟩) (.slice Ak j ck));have xg:=ah (wo.four (w:=w) (u:=t) (t:=t) (A0:=A) (n0:=n) (cap0:=cap) (ks:=jh t o) (K:=(.slice Ak j ck)) ⟨.inl ⟨rfl,rfl⟩,xq.out⟩ hzx (by decide) dK.out HB.out.size (.int .i64 0) (.int .i64 0) (.string ⟨#[]⟩) (.slice Ak j ck));clear hfin;go_wp2_with fail;refine bodyPost_ret (v:=.tuple #[.slice A n cap,.agg (bR 0 (.slice Ak j ck))]) (by simp[results,Tryz.results133,go_sem,e0,e1,e2,e3]) rfl ⟨_,_,rfl,xg.out,aU.out⟩
  ·have iw:j=n-p:=by omega
   have HJE:=ah iw;subst iw;subst hkv;have hji:¬(((n-p:Nat):Int)<((n-p:Nat):Int)):=by omega
   have HE:Hid (((t.drop p).take (n-p)).map (·.key)=jh t o):=abH HR.out jk.out (by have:=EN.out;omega) (by omega) lX.out (.inl EN.out.symm);have Dh:=oW.out;rw[←HKK.out,HE.out]at Dh;have xq:=ah Dh;clear Dh;have hzx:=aj.below gQ.out bU.out;have vQ:=ah (aA HB.out bU.out);obtain⟨c0,c1,c2,c3,c4,c5,c6,c7,c8,c9⟩:=(jq.out.below bU.out).cells;obtain⟨z0,z1,z2,z3⟩:=aY hzx;obtain⟨f0,f1,f2,f3⟩:=dX hzx;have hfin:=jI hzx (.int .i64 0) (.int .i64 0) (.string ⟨#[]⟩) (.slice Ak (n-p) ck);obtain⟨e0,e1,e2,e3⟩:=aY hfin;have aU:=ah (jG (g:=(w.heap.size+1)) vQ.out (Nat.le_succ _) (.int .i64 0) (.int .i64 0) (.string ⟨#[]⟩) (.slice Ak (n-p) ck));have xg:=ah (wo.four (w:=w) (u:=t) (t:=t) (A0:=A) (n0:=n) (cap0:=cap) (ks:=jh t o) (K:=(.slice Ak (n-p) ck)) ⟨.inl ⟨rfl,rfl⟩,xq.out⟩ hzx (by decide) dK.out HB.out.size (.int .i64 0) (.int .i64 0) (.string ⟨#[]⟩) (.slice Ak (n-p) ck));clear hfin;go_wp2_with fail;refine bodyPost_ret (v:=.tuple #[.slice A n cap,.agg (bR 0 ((.slice Ak (n-p) ck)))]) (by simp[results,Tryz.results133,go_sem,e0,e1,e2,e3]) rfl ⟨_,_,rfl,xg.out,aU.out⟩
open Go.Maps (Keyed int_keyed keyOf_int_mk)
noncomputable def wI (x:Value) (v:Value):Option (DataW Unit×List MemPlace):=
 open Classical in
 if h:∃f:Nat,v= .func (.func f) #[x] #[]then some (.lit (.int .i64 (h.choose:Int)),[])
 else if v= .nilFunc then some (.lit (.bool false),[])else none
theorem aoU (x:Value) (f:Nat):wI x (.func (.func f) #[x] #[])=some (.lit (.int .i64 (f:Int)),[]):=by
 unfold wI;have h:∃g:Nat,Value.func (.func f) #[x] #[]= .func (.func g) #[x] #[]:=⟨f,rfl⟩;rw[dif_pos h];have e:=h.choose_spec;injection e with e1;injection e1 with e2;rw[←e2]
theorem aoW (x:Value):wI x .nilFunc=some (.lit (.bool false),[]):=by
 unfold wI;rw[dif_neg (fun h=>by obtain⟨f,h⟩:=h;cases h),if_pos rfl]
theorem aoV {x v:Value} {f:Nat} {ps:List MemPlace} (h:wI x v=some (.lit (.int .i64 (f:Int)),ps)):v= .func (.func f) #[x] #[]:=by
 unfold wI at h;split at h
 ·rename_i hx;simp only[Option.some.injEq,Prod.mk.injEq,DataW.lit.injEq,Lit.int.injEq,true_and]at h;have h3:hx.choose=f:=Int.ofNat.inj h.1;have e:=hx.choose_spec;rw[h3]at e;exact e
 ·split at h
  ·simp at h
  ·cases h
theorem Oa {P:Program} (w:World) {ops:Array Oper} {rest:List Oper} {o:Oper} {a:Act} {Q:Exit→Act→World→Prop}
  (hg:o.guard=none) (m x v:Operand) (t:TypeId) (hop:o.op=Op.insert t m x v) (k e:TypeId) (K:Keyed P k) (ht:P.underlying t=some (.map k e)) (R:Value→Option (DataW Unit×List MemPlace)) (b n:Nat) (D:DataW Unit)
  (hm:a.eval m= .map (some b)) (hown:w.ownsMap P k R b n D) (hn:n<maxLen) (key val:Value) (kl:Lit) (hx:a.eval x=key) (hv:a.eval v=val) (hkey:keyOf P k key=some kl) (d:DataW Unit) (ps:List MemPlace) (hval:R val=some (d,ps))
  (hK:∀w',w'.ownsMap P k R b (n+1) (D.put kl d)→w.grownBy w' (some b)→wpList P ops Q rest (a.put o.dst undef) w'):wpList P ops Q (o::rest) a w:=by
 obtain⟨w1,hrun,r1,r2⟩:=hown.update K ht hn hkey hval;refine wpList_plain hg fun K1 hK1=>?_;unfold Oper.wp;simp[execOp,hop,hm,hx,hv,hrun,Result.andThen];exact hK1 _ _ (hK w1 r1 r2)
def Ik:DataW Unit:=((((((DataW.map []).put (.int .i64 1) (.lit (.int .i64 (128:Nat)))).put (.int .i64 2) (.lit (.int .i64 (129:Nat)))).put (.int .i64 3) (.lit (.int .i64 (130:Nat)))).put (.int .i64 4) (.lit (.int .i64 (131:Nat)))).put (.int .i64 5) (.lit (.int .i64 (132:Nat)))).put (.int .i64 6) (.lit (.int .i64 (133:Nat)))
theorem aoj:Ik.atKey (.int .i64 1) (.lit (.bool false))= .lit (.int .i64 (128:Nat)):=by rfl
theorem aok:Ik.atKey (.int .i64 2) (.lit (.bool false))= .lit (.int .i64 (129:Nat)):=by rfl
theorem aol:Ik.atKey (.int .i64 3) (.lit (.bool false))= .lit (.int .i64 (130:Nat)):=by rfl
theorem aom:Ik.atKey (.int .i64 4) (.lit (.bool false))= .lit (.int .i64 (131:Nat)):=by rfl
theorem aon:Ik.atKey (.int .i64 5) (.lit (.bool false))= .lit (.int .i64 (132:Nat)):=by rfl
theorem aoo:Ik.atKey (.int .i64 6) (.lit (.bool false))= .lit (.int .i64 (133:Nat)):=by rfl
theorem am_ (args:Array Value) (w:World):(callFunc 128 args).run Tryz.prog w= .ok (.enter 128 args) w:=Ez Tryz.func128 (by kernel_rfl) (by kernel_rfl) args w
theorem ana (args:Array Value) (w:World):(callFunc 129 args).run Tryz.prog w= .ok (.enter 129 args) w:=Ez Tryz.func129 (by kernel_rfl) (by kernel_rfl) args w
theorem anb (args:Array Value) (w:World):(callFunc 130 args).run Tryz.prog w= .ok (.enter 130 args) w:=Ez Tryz.func130 (by kernel_rfl) (by kernel_rfl) args w
theorem anc (args:Array Value) (w:World):(callFunc 131 args).run Tryz.prog w= .ok (.enter 131 args) w:=Ez Tryz.func131 (by kernel_rfl) (by kernel_rfl) args w
theorem ane (args:Array Value) (w:World):(callFunc 132 args).run Tryz.prog w= .ok (.enter 132 args) w:=Ez Tryz.func132 (by kernel_rfl) (by kernel_rfl) args w
theorem anf (args:Array Value) (w:World):(callFunc 133 args).run Tryz.prog w= .ok (.enter 133 args) w:=Ez Tryz.func133 (by kernel_rfl) (by kernel_rfl) args w
theorem ava (w:World):(zeroValue 114).run Tryz.prog w= .ok .nilFunc w:=by kernel_rfl
def WJ (w:World) (x:Value) (e:Ending) (w':World):Prop:=
 ∃b,e= .returned (.map (some b))∧w'.ownsMap Tryz.prog 3 (wI x) b 6 Ik∧Below w.heap.size w w'
theorem aod (A:Option Addr) (n cap:Nat) (o:aX) (p:Nat) (th:Bool) (w:World):Calls Tryz.prog 84 #[iV A n cap o p th] w (WJ w (iV A n cap o p th)):=by
 have hmm:=@run_makeMap Tryz.prog;have hb1:Below w.heap.size w (w.alloc (.cells (aW A n cap o p th) 117)):=ak _ _;have hb2:Below w.heap.size w ((w.alloc (.cells (aW A n cap o p th) 117)).alloc (.map #[] 0)):=hb1.alloc (by simp) _;have hwk0:gX ((w.alloc (.cells (aW A n cap o p th) 117)).alloc (.map #[] 0)) w.heap.size A n cap o p th:=(gX.new w A n cap o p th).below (ak _ _);have h0:((w.alloc (.cells (aW A n cap o p th) 117)).alloc (.map #[] 0)).ownsMap Tryz.prog 3 (wI (iV A n cap o p th)) (w.heap.size+1) 0 (.map []):=by have h:=World.ownsMap_made (P:=Tryz.prog) (k:=3) (R:=wI (iV A n cap o p th)) (w.alloc (.cells (aW A n cap o p th) 117));rw[World.size_alloc]at h;exact h
 obtain⟨c0,c1,c2,c3,c4,c5,c6,c7,c8,c9⟩:=(gX.new w A n cap o p th).cells;obtain⟨a0,a1,a2,a3,a4,a5,a6,a7,a8,a9⟩:=hwk0.cells;have ald:Hid (gX ((w.alloc (.cells (aW A n cap o p th) 117)).alloc (.map #[] 0)) w.heap.size A n cap o p th):=hwk0;clear hwk0;have HB0:=ah hb2;clear hb1 hb2;have hx0:iV A n cap o p th= .agg (aW A n cap o p th):=rfl;obtain⟨X,hX⟩:∃X,iV A n cap o p th=X:=⟨_,rfl⟩;rw[hX]at h0;have HX:Hid (∀f:Nat,wI X (.func (.func f) #[.agg (aW A n cap o p th)] #[])=some (.lit (.int .i64 (f:Int)),[])):=fun f=>by rw[←hx0,hX];exact aoU X f
 have Ea:=ah hX;have aiQ:Hid (∀e w',WJ w X e w'→WJ w (iV A n cap o p th) e w'):=fun e w' h=>by rw[hX];exact h
 clear hX hx0;unfold iV;go_enter Tryz.func84,Tryz.ntmps84;go_wp2_with (refine Oa _ rfl _ _ _ 115 rfl 3 114 (int_keyed Tryz.underlying3) Tryz.underlying115 (wI X) (w.heap.size+1) 0 _ rfl h0 (by unfold maxLen;omega) _ _ (.int .i64 1) rfl rfl (keyOf_int_mk Tryz.underlying3 (by decide)) (.lit (.int .i64 (128:Nat))) [] (HX.out _) ?_);intro w1 h1 g1;clear h0 c0 c1 c2 c3 c4 c5 c6 c7 c8 c9 a0 a1 a2 a3 a4 a5 a6 a7 a8 a9;have adK:Hid (gX w1 w.heap.size A n cap o p th):=aj.kept ald.out g1 (by simp);have HB1:Hid (Below w.heap.size w w1):=HB0.out.grown g1 HB0.out.size (fun q hq=>by cases hq;exact Nat.le_succ _);clear g1;obtain⟨a0,a1,a2,a3,a4,a5,a6,a7,a8,a9⟩:=adK.out.cells;go_wp2_with (refine Oa _ rfl _ _ _ 115 rfl 3 114 (int_keyed Tryz.underlying3) Tryz.underlying115 (wI X) (w.heap.size+1) 1 _ rfl h1 (by unfold maxLen;omega) _ _ (.int .i64 2) rfl rfl (keyOf_int_mk Tryz.underlying3 (by decide)) (.lit (.int .i64 (129:Nat))) [] (HX.out _) ?_);intro w2 h2 g2;clear h1 a0 a1 a2 a3 a4 a5 a6 a7 a8 a9;have adL:Hid (gX w2 w.heap.size A n cap o p th):=aj.kept adK.out g2 (by simp);have HB2:Hid (Below w.heap.size w w2):=HB1.out.grown g2 HB1.out.size (fun q hq=>by cases hq;exact Nat.le_succ _);clear g2;obtain⟨a0,a1,a2,a3,a4,a5,a6,a7,a8,a9⟩:=adL.out.cells;go_wp2_with (refine Oa _ rfl _ _ _ 115 rfl 3 114 (int_keyed Tryz.underlying3) Tryz.underlying115 (wI X) (w.heap.size+1) 2 _ rfl h2 (by unfold maxLen;omega) _ _ (.int .i64 3) rfl rfl (keyOf_int_mk Tryz.underlying3 (by decide)) (.lit (.int .i64 (130:Nat))) [] (HX.out _) ?_);intro w3 h3 g3;clear h2 a0 a1 a2 a3 a4 a5 a6 a7 a8 a9;have adM:Hid (gX w3 w.heap.size A n cap o p th):=aj.kept adL.out g3 (by simp);have HB3:Hid (Below w.heap.size w w3):=HB2.out.grown g3 HB2.out.size (fun q hq=>by cases hq;exact Nat.le_succ _);clear g3;obtain⟨a0,a1,a2,a3,a4,a5,a6,a7,a8,a9⟩:=adM.out.cells;go_wp2_with (refine Oa _ rfl _ _ _ 115 rfl 3 114 (int_keyed Tryz.underlying3) Tryz.underlying115 (wI X) (w.heap.size+1) 3 _ rfl h3 (by unfold maxLen;omega) _ _ (.int .i64 4) rfl rfl (keyOf_int_mk Tryz.underlying3 (by decide)) (.lit (.int .i64 (131:Nat))) [] (HX.out _) ?_);intro w4 h4 g4;clear h3 a0 a1 a2 a3 a4 a5 a6 a7 a8 a9;have adN:Hid (gX w4 w.heap.size A n cap o p th):=aj.kept adM.out g4 (by simp);have cB:Hid (Below w.heap.size w w4):=HB3.out.grown g4 HB3.out.size (fun q hq=>by cases hq;exact Nat.le_succ _);clear g4;obtain⟨a0,a1,a2,a3,a4,a5,a6,a7,a8,a9⟩:=adN.out.cells;go_wp2_with (refine Oa _ rfl _ _ _ 115 rfl 3 114 (int_keyed Tryz.underlying3) Tryz.underlying115 (wI X) (w.heap.size+1) 4 _ rfl h4 (by unfold maxLen;omega) _ _ (.int .i64 5) rfl rfl (keyOf_int_mk Tryz.underlying3 (by decide)) (.lit (.int .i64 (132:Nat))) [] (HX.out _) ?_);intro w5 h5 g5;clear h4 a0 a1 a2 a3 a4 a5 a6 a7 a8 a9;have adO:Hid (gX w5 w.heap.size A n cap o p th):=aj.kept adN.out g5 (by simp);have eH:Hid (Below w.heap.size w w5):=cB.out.grown g5 cB.out.size (fun q hq=>by cases hq;exact Nat.le_succ _);clear g5;obtain⟨a0,a1,a2,a3,a4,a5,a6,a7,a8,a9⟩:=adO.out.cells;go_wp2_with (refine Oa _ rfl _ _ _ 115 rfl 3 114 (int_keyed Tryz.underlying3) Tryz.underlying115 (wI X) (w.heap.size+1) 5 _ rfl h5 (by unfold maxLen;omega) _ _ (.int .i64 6) rfl rfl (keyOf_int_mk Tryz.underlying3 (by decide)) (.lit (.int .i64 (133:Nat))) [] (HX.out _) ?_);intro w6 h6 g6;clear h5 a0 a1 a2 a3 a4 a5 a6 a7 a8 a9;have ale:Hid (gX w6 w.heap.size A n cap o p th):=aj.kept adO.out g6 (by simp);have gM:Hid (Below w.heap.size w w6):=eH.out.grown g6 eH.out.size (fun q hq=>by cases hq;exact Nat.le_succ _);clear g6;obtain⟨a0,a1,a2,a3,a4,a5,a6,a7,a8,a9⟩:=ale.out.cells;go_wp2_with fail;go_ret;exact aiQ.out _ _ ⟨w.heap.size+1,rfl,h6,gM.out⟩
theorem auL (o:aX) (r:au):oF (yO o r)=vF r o:=rfl
theorem auJ (o:aX) (r:au):oF (Ei o r)=uy r o:=rfl
theorem auK (o:aX):oF (yO o (Aj o))=newR o:=rfl
theorem aik {t:List au} {o:aX} {p:Nat} {th:Bool} (h:iO t) (hp:Ct t o.key p th):qJ (yO o) t o p th=bM t (jS t o.key) o:=by
 cases th with
 |true=>
  rw[(FW hp).2.2];unfold qJ FB bM;simp only[if_true]
  by_cases hm:(atR t p).rev=bZ
  ·rw[if_pos (by simpa using hm),if_pos hm]
  ·rw[if_neg (by simpa using hm),if_neg hm,auL];rfl
 |false=>
  have hn:=RO h.rise hp;rw[hn];unfold qJ FB bM
  by_cases hl:t.length=20
  ·rw[if_pos (by simp[hl])];simp only;rw[if_pos (by omega)]
  ·have:=h.2.2;rw[if_neg (by simp[hl]),if_neg Bool.false_ne_true];simp only;rw[if_neg (by omega),arz hp.1 hp.2.1 hp.2.2.1 (aaX hn),auK];rfl
theorem asv {t:List au} {o:aX} {p:Nat} {th:Bool} (h:iO t) (hp:Ct t o.key p th):Dn t p th=FZ t (jS t o.key):=by
 cases th with
 |true=>rw[(FW hp).2.2];rfl
 |false=>rw[RO h.rise hp];rfl
def ad5 (FN:Nat) (t:List au) (o:aX):Prop:=∀(A:Option Addr) (n cap p:Nat) (th:Bool) (W:World),Cx W A n cap t o p th→
 Calls Tryz.prog FN #[iV A n cap o p th] W (Bl W A n cap t (bO t o).1 (bO t o).2)
theorem aqz {t:List au} {o:aX} (hr:iO t) (hc:dY 2 o=0):∃FN:Nat,Ik.atKey (.int .i64 o.kind) (.lit (.bool false))= .lit (.int .i64 (FN:Int))∧
  (∀(args:Array Value) (W:World),(callFunc FN args).run Tryz.prog W= .ok (.enter FN args) W)∧ad5 FN t o:=by
 have hk:=(Nr hc).1;have hd:=ZV ⟨hr,hc⟩;rcases(by omega:o.kind=1∨o.kind=2∨o.kind=3∨o.kind=4∨o.kind=5∨o.kind=6)with e|e|e|e|e|e
 ·refine⟨128,by rw[e];exact aoj,am_,fun A n cap p th W h=>?_⟩;have q:=ao_ t A n cap o p th W h;have he:bO t o=(t,aag t p th):=by
   rw[hd,if_neg (by omega),if_neg (by omega),if_neg (by omega)];have hp:=h.2.2.2.2
   cases th with
   |true=>rw[(FW hp).2.2];simp only;rw[if_pos e];rfl
   |false=>rw[RO hr.rise hp];rfl
  rw[he];exact q
 ·refine⟨129,by rw[e];exact aok,ana,fun A n cap p th W h=>?_⟩;have q:=agY t A n cap o p th W h;have he:bO t o=qJ (yO o) t o p th:=by
   rw[hd,if_neg (by omega),if_pos e,aik hr h.2.2.2.2]
  rw[he];exact q
 ·refine⟨130,by rw[e];exact aol,anb,fun A n cap p th W h=>?_⟩;have q:=asl t A n cap o p th W h;have he:bO t o=VK t p th:=by
   rw[hd,if_neg (by omega),if_neg (by omega),if_neg (by omega)];have hp:=h.2.2.2.2
   cases th with
   |true=>rw[(FW hp).2.2];simp only;rw[if_neg (by omega),if_pos e];rfl
   |false=>rw[RO hr.rise hp];rfl
  rw[he];exact q
 ·refine⟨131,by rw[e];exact aom,anc,fun A n cap p th W h=>?_⟩;have q:=amS t A n cap o p th W h;have he:bO t o=Ic t o p th:=by
   rw[hd,if_neg (by omega),if_neg (by omega),if_pos e];unfold Ic;rw[asv hr h.2.2.2.2,aik hr h.2.2.2.2]
   by_cases hv:FZ t (jS t o.key)=o.rev
   ·rw[if_neg (fun h=>h hv),if_pos hv]
   ·rw[if_pos hv,if_neg hv];rfl
  rw[he];exact q
 ·refine⟨132,by rw[e];exact aon,ane,fun A n cap p th W h=>?_⟩;have q:=aqy t A n cap o p th W h;have he:bO t o=RF t o p th:=by
   rw[hd,if_neg (by omega),if_neg (by omega),if_neg (by omega)];have hp:=h.2.2.2.2
   cases th with
   |true=>
    rw[(FW hp).2.2];simp only;rw[if_neg (by omega),if_neg (by omega)];unfold RF qJ FB;simp only[if_true]
    by_cases hm:(atR t p).rev=bZ
    ·rw[if_pos hm,if_pos (by simpa using hm)]
    ·rw[if_neg hm,if_neg (by simpa using hm),auJ];rfl
   |false=>rw[RO hr.rise hp];rfl
  rw[he];exact q
 ·refine⟨133,by rw[e];exact aoo,anf,fun A n cap p th W h=>?_⟩;have q:=as4 t A n cap o p th W h;have he:bO t o=(t,⟨0,0,⟨#[]⟩,jh t o⟩):=by rw[hd,if_pos e];rfl
  rw[he];exact q
theorem aoa {t:List au} (h:∀r∈t,om r) (o:aX):∀s∈(bO t o).2.keys,s.size≤maxLen:=by
 have hs:∀s∈jh t o,s.size≤maxLen:=fun s hs=>by
  unfold jh at hs;obtain⟨r,hr,rfl⟩:=List.mem_map.1 hs;have hr2:=(List.mem_filter.1 (List.mem_of_mem_take hr)).1;have:=(h r hr2).1.1;unfold maxLen;omega
 have hp:∀k,(bM t k o).2.keys=[]:=fun k=>RQ t k o;intro s hm
 by_cases hb:iO t∧dY 2 o=0
 ·rw[ZV hb]at hm;split at hm
  ·exact hs s hm
  ·split at hm
   ·rw[hp]at hm;cases hm
   ·split at hm
    ·split at hm
     ·cases hm
     ·rw[hp]at hm;cases hm
    ·split at hm
     ·cases hm
     ·split at hm
      ·cases hm
      ·split at hm
       ·cases hm
       ·split at hm
        ·cases hm
        ·cases hm
 ·rw[Qn hb]at hm;cases hm
theorem aeX (t:List au) (o:aX) (A:Option Addr) (n cap:Nat) (w:World) (ho:Bo o) (hc:n≤cap) (ht:gW w A n t):
  Calls Tryz.prog 41 #[.slice A n cap,gU o] w (Bl w A n cap t (bO t o).1 (bO t o).2):=by
 have HT:=ah ht;clear ht;have HC:=ah hc;clear hc;have HO:=ah ho;clear ho;have hb1:Below w.heap.size w (w.alloc (.cells (aO o) 29)):=ak _ _;have hb2:Below w.heap.size w ((w.alloc (.cells (aO o) 29)).alloc (.cells z4 43)):=hb1.alloc (by simp) _;have pK:fH ((w.alloc (.cells (aO o) 29)).alloc (.cells z4 43)) w.heap.size o:=(fH.new w o).below (ak _ _);have hzb:aj ((w.alloc (.cells (aO o) 29)).alloc (.cells z4 43)) (w.heap.size+1) (.cells z4 43 (0,0)):=by have h:=aj.new (w.alloc (.cells (aO o) 29)) (.cells z4 43);rw[World.size_alloc]at h;exact h
 obtain⟨W0,hW0⟩:=aQ ((w.alloc (.cells (aO o) 29)).alloc (.cells z4 43));rw[hW0]at hb2 pK hzb;clear hb1;have oK:Hid (fH W0 w.heap.size o):=pK;clear pK;have gQ:=ah hzb;clear hzb;have HB:=ah hb2;clear hb2;have dK:Hid (w.heap.size+1<W0.heap.size):=aj.lt gQ.out;have qr:=ahm t A n cap W0 (HT.out.below HB.out);unfold gU
 by_cases hr:iO t
 rotate_left
 ·have HE:Hid (bO t o=(t,gK 1)):=Qn (fun h=>hr h.1);rw[abw hr]at qr;clear hr;obtain⟨c0,c1,c2,c3,c4,c5,c6⟩:=oK.out.cells;go_enter Tryz.func41,Tryz.ntmps41;go_wp2_with fail
  ((with_reducible refine qr.mono ?_);rintro e W1 ⟨rfl,b1⟩)
  have hz1:=aj.below gQ.out b1;have HB1:=ah (aA HB.out b1);clear qr b1 c0 c1 c2 c3 c4 c5 c6;obtain⟨z0,z1,z2,z3⟩:=aY hz1;obtain⟨f0,f1,f2,f3⟩:=dX hz1;have hfin:=jI hz1 (.int .i64 1) (.int .i64 0) (.string ⟨#[]⟩) (.slice none 0 0);obtain⟨e0,e1,e2,e3⟩:=aY hfin;have aU:=ah (jG (g:=(w.heap.size+1)) HB1.out (Nat.le_succ _) (.int .i64 1) (.int .i64 0) (.string ⟨#[]⟩) (.slice none 0 0));clear hfin;go_wp2_with fail;refine bodyPost_ret (v:=.tuple #[.slice A n cap,.agg (bR 1 (.slice none 0 0))]) (by simp[results,Tryz.results41,go_sem,e0,e1,e2,e3]) rfl (by rw[HE.out];exact(Jd (A:=A) (n:=n) (cap:=cap) (t:=t) (r:=gK 1) rfl aU.out))
 rw[Lb.2 hr]at qr;have iC:=ah hr;have qc:=fun W=>aeF 2 o W;unfold gU at qc
 by_cases hk:dY 2 o=0
 rotate_left
 ·have HE:Hid (bO t o=(t,gK 1)):=Qn (fun h=>hk h.2);have ek:(((dY 2 o:Nat):Int) != 0)=true:=by simp;omega
  clear hr hk;generalize((dY 2 o:Nat):Int)=z at*;obtain⟨c0,c1,c2,c3,c4,c5,c6⟩:=oK.out.cells;go_enter Tryz.func41,Tryz.ntmps41;go_wp2_with fail
  ((with_reducible refine qr.mono ?_);rintro e W1 ⟨rfl,b1⟩)
  have ho1:=fH.below oK.out b1;have hz1:=aj.below gQ.out b1;have HB1:=ah (aA HB.out b1);clear qr b1 c0 c1 c2 c3 c4 c5 c6;obtain⟨c0,c1,c2,c3,c4,c5,c6⟩:=ho1.cells;go_wp2_with fail
  ((with_reducible refine(qc _).mono ?_);rintro e W2 ⟨rfl,b2⟩)
  have hz2:=aj.below hz1 b2;have HB2:=ah (aA HB1.out b2);clear qc b2 hz1 ho1 c0 c1 c2 c3 c4 c5 c6;obtain⟨z0,z1,z2,z3⟩:=aY hz2;obtain⟨f0,f1,f2,f3⟩:=dX hz2;have hfin:=jI hz2 (.int .i64 1) (.int .i64 0) (.string ⟨#[]⟩) (.slice none 0 0);obtain⟨e0,e1,e2,e3⟩:=aY hfin;have aU:=ah (jG (g:=(w.heap.size+1)) HB2.out (Nat.le_succ _) (.int .i64 1) (.int .i64 0) (.string ⟨#[]⟩) (.slice none 0 0));clear hfin;go_wp2_with fail;refine bodyPost_ret (v:=.tuple #[.slice A n cap,.agg (bR 1 (.slice none 0 0))]) (by simp[results,Tryz.results41,go_sem,e0,e1,e2,e3]) rfl (by rw[HE.out];exact(Jd (A:=A) (n:=n) (cap:=cap) (t:=t) (r:=gK 1) rfl aU.out))
 obtain⟨FN,hat,hcf,hme⟩:=aqz hr hk;have hkw:(Lit.int .i64 o.kind).wf=true:=HO.out.1;have DT:Hid (∀s∈(bO t o).2.keys,s.size≤maxLen):=aoa HT.out.2.2.1 o;have H20:Hid (n≤20):=by have:=HT.out.1;have:=hr.2.2;show n≤20;omega
 rw[hk]at qc;clear hr hk;unfold ad5 at hme;generalize(bO t o).1=U at*;generalize(bO t o).2=R at*;have Nu:Calls Tryz.prog 30 #[.slice A n cap] W0 (fun e w'=>e= .returned (.bool true)∧Below W0.heap.size W0 w'):=qr;clear qr;obtain⟨c0,c1,c2,c3,c4,c5,c6⟩:=oK.out.cells;go_enter Tryz.func41,Tryz.ntmps41;go_wp2_with fail
 ((with_reducible refine Nu.mono ?_);rintro e W1 ⟨rfl,b1⟩)
 have ho1:=fH.below oK.out b1;have hz1:=aj.below gQ.out b1;have HB1:=ah (aA HB.out b1);clear Nu b1 c0 c1 c2 c3 c4 c5 c6;obtain⟨c0,c1,c2,c3,c4,c5,c6⟩:=ho1.cells;go_wp2_with fail
 ((with_reducible refine(qc _).mono ?_);rintro e V1 ⟨rfl,b2⟩)
 have HZ1:=ah (aj.below hz1 b2);have eZ:Hid (fH V1 w.heap.size o):=fH.below ho1 b2;have eT:=ah (aA HB1.out b2);clear qc b2 hz1 ho1 c0 c1 c2 c3 c4 c5 c6;have HS2:Hid (w.heap.size+1<V1.heap.size):=aj.lt HZ1.out;have qb:∀W,Below V1.heap.size V1 W→Calls Tryz.prog 83 #[.slice A n cap,gU o] W (ace W A n cap t o):=fun W hb=>amv t o A n cap W (HT.out.below (aA eT.out hb)) iC.out.rise H20.out;unfold gU at qb;go_upto_region 3 with fail;refine wp_region_noPanic ?_;refine Du (S:=(fun W=>Below V1.heap.size V1 W)) [11] (by kernel_rfl) ((Below.refl _ _).drew) (fun hHeld=>?_);refine dA 0 ?_;refine dA 1 ?_ (hy:=fun w hSw=>by((try dsimp only at hSw);obtain⟨c0,c1,c2,c3,c4,c5,c6⟩:=(fH.below eZ.out hSw).cells;go_simp;(try with_reducible rfl)));refine dA 4 ?_;refine dA 5 ?_ (hy:=fun w hSw=>by((try dsimp only at hSw);obtain⟨c0,c1,c2,c3,c4,c5,c6⟩:=(fH.below eZ.out hSw).cells;go_simp;(try with_reducible rfl)));refine qH 2 fun K hK=>?_;go_simp
 ((with_reducible refine(qb _ hHeld).mono ?_);rintro e V2 ⟨⟨p,th,hpl,rfl⟩,bq2⟩)
 have jk:=ah hpl;clear hpl;refine hK.out _ _ (aA hHeld bq2) fun hHeld=>?_;clear hK K;refine qH 3 fun K hK=>?_;go_simp
 ((with_reducible refine(aod A n cap o p th _).mono ?_);rintro e V3 ⟨b,rfl,hmap,Ib⟩)
 obtain⟨fv,ps,hlk,hfv⟩:=hmap.lookup (int_keyed Tryz.underlying3) Tryz.underlying115 (ava V3) (aoW _) (keyOf_int_mk Tryz.underlying3 hkw);rw[hat]at hfv;have hfe:=aoV hfv;subst hfe;clear hfv hmap;have qm:=hme A n cap p th V3 ⟨HC.out,HT.out.below (aA eT.out (aA hHeld Ib)),iC.out,HO.out,jk.out⟩;have HH3:=ah (aA hHeld Ib);refine hK.out _ _ (aA hHeld Ib) fun hHeld=>?_;clear hK K;refine qH 6 fun K hK=>?_;go_simp;refine hK.out _ _ (hHeld) fun hHeld=>?_;clear hK K;refine qH 7 fun K hK=>?_;go_simp
 ((with_reducible refine qm.mono ?_);rintro e V4 ⟨v,K,rfl,hpr,bq4⟩)
 obtain⟨Ak,ck,hK⟩:=xV hpr.2;subst hK;unfold bX;have tY:=ah hpr;have D7:Hid (V1.heap.size≤V3.heap.size):=HH3.out.size;refine hK.out _ _ (aA hHeld bq4) fun hHeld=>?_;clear hK K;clear qm hlk hpr;have lV:=aj.below HZ1.out hHeld;have cB:=ah (aA eT.out hHeld);obtain⟨z0,z1,z2,z3⟩:=aY lV;obtain⟨f0,f1,f2,f3⟩:=dX lV;refine dA 8 ?_;refine dA 9 ?_;refine dA 10 ?_;refine wQ (rs:=[11]) (by kernel_rfl) (by simp) ?_;refine jA.last rfl (by kernel_rfl) (fun K hK=>?_) jA.nil;rw[if_pos (by rfl)];go_simp;refine hK.out _ _ (trivial) fun hHeld=>?_;clear hK K;refine Dt (by kernel_rfl) ?_ _;refine NoPanic.normal ?_;have hfin:=jI lV (.int .i64 R.errno) (.int .i64 R.rev) (.string R.value) (.slice Ak R.keys.length ck);obtain⟨e0,e1,e2,e3⟩:=aY hfin;have aU:=ah (jG (g:=(w.heap.size+1)) cB.out (Nat.le_succ _) (.int .i64 R.errno) (.int .i64 R.rev) (.string R.value) (.slice Ak R.keys.length ck));have xg:=ah (wo.four (w:=w) tY.out lV (by decide) (Nat.lt_of_lt_of_le HS2.out D7.out) (Nat.le_trans eT.out.size D7.out) (.int .i64 R.errno) (.int .i64 R.rev) (.string R.value) (.slice Ak R.keys.length ck));clear hfin;go_wp2_with fail;refine bodyPost_ret (v:=.tuple #[v,.agg (aR R (.slice Ak R.keys.length ck))]) (by simp[results,Tryz.results41,go_sem,e0,e1,e2,e3]) rfl ⟨v,_,rfl,xg.out,aU.out⟩
end Go.Proofs.YtodaapcohdpenaaGreat
