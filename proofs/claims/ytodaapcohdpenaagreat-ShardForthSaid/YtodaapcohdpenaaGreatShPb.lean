-- eB
import Derived.Test.YtodaapcohdpenaaGreatGSq
import Derived.Test.YtodaapcohdpenaaGreatShRef
import Derived.Test.YtodaapcohdpenaaGreatGTabQ
import Derived.Test.YtodaapcohdpenaaGreatGRpP
namespace Go.Proofs.YtodaapcohdpenaaGreat
open Go.RowKit
set_option linter.unusedSimpArgs false
set_option linter.unusedVariables false
set_option maxHeartbeats 8000000
set_option maxRecDepth 100000
theorem aa2 (v:Int) (w:World):Calls Tryz.prog 49 #[.int .i64 v] w fun e w'=>e= .returned (.bool (decide (v=1∨v=2)))∧Below w.heap.size w w':=by
 by_cases h1:v=1
 ·subst h1;go_enter Tryz.func49,Tryz.ntmps49;go_wp2;go_ret;exact⟨rfl,Below.refl _ _⟩
 ·by_cases h2:v=2
  ·subst h2;go_enter Tryz.func49,Tryz.ntmps49;go_wp2;go_ret;exact⟨rfl,Below.refl _ _⟩
  ·have HE:Hid (decide (v=1∨v=2)=false):=by show decide _=false;simp[h1,h2]
   have e1:(v==1)=false:=by rw[beq_eq_false_iff_ne];exact h1
   have e2:(v==2)=false:=by rw[beq_eq_false_iff_ne];exact h2
   generalize decide (v=1∨v=2)=R at*;clear h1 h2;go_enter Tryz.func49,Tryz.ntmps49;go_wp2;go_ret;exact⟨by rw[HE.out];rfl,Below.refl _ _⟩
theorem VI (s:ShR) (x:Int) (A B:Option Addr) (n cap m cm:Nat) (w:World):Calls Tryz.prog 39 #[d_ s (.slice A n cap) (.slice B m cm),.int .i64 x] w fun e w'=>e= .returned (.tuple #[d_ s (.slice A n cap) (.slice B m cm),.agg (bR x (.slice none 0 0)),.bool false])∧Below w.heap.size w w':=by
 unfold d_;go_enter Tryz.func39,Tryz.ntmps39;go_wp2_with fail;have h0:=aj.new w (.cells (aS s (.slice A n cap) (.slice B m cm)) 26);refine bodyPost_ret (v:=.tuple #[.agg (aS s (.slice A n cap) (.slice B m cm)),.agg (bR x (.slice none 0 0)),.bool false]) (by simp[results,Tryz.results39,go_sem]) rfl ⟨rfl,?_⟩;exact((ak _ _).alloc (by simp) _).alloc (by simp;omega) _
theorem VN (s:ShR) (A B:Option Addr) (n cap m cm:Nat) (w:World) (h:bL w s A n cap B m cm) (hz:rC n m):
  Calls Tryz.prog 13 #[d_ s (.slice A n cap) (.slice B m cm)] w fun e w'=>e= .returned (.bool (rT s))∧Below w.heap.size w w':=by
 have bA:Hid (¬fq s→rT s=false):=VO;have iF:Hid (fq s→rT s=true):=La.2;generalize rT s=R at*;have hb:Below w.heap.size w (w.alloc (.cells (aS s (.slice A n cap) (.slice B m cm)) 26)):=ak _ _;have hx:=aj.new w (.cells (aS s (.slice A n cap) (.slice B m cm)) 26);obtain⟨W0,hW0⟩:=aQ (w.alloc (.cells (aS s (.slice A n cap) (.slice B m cm)) 26));rw[hW0]at hb hx;have q1:=asy s.table A n cap W0 h.1 (h.2.2.1.below hb) hz.1;have HD:=ah (h.2.2.2.below hb);have qN:Hid (m≤cm∧m*72≤140737488351232):=⟨h.2.1,hz.2⟩;have HX:=ah hx;clear hx;have HB:=ah hb;clear hb h hz;obtain⟨rt,hrt⟩:∃v,wN s.table=v:=⟨_,rfl⟩;have iC:Hid (rt=true↔iO s.table):=by rw[←hrt];exact Lb
 rw[hrt]at q1;clear hrt;obtain⟨x0,x1,x2,x3,x4⟩:=aZ HX.out;unfold d_
 by_cases g0:0≤s.id
 rotate_left
 ·have HE:Hid (R=false):=bA.out fun h=>g0 h.2.2.1.1;have e0:decide (0≤s.id)=false:=decide_eq_false g0;go_enter Tryz.func13,Tryz.ntmps13;go_wp2_with fail
  try rw[hW0]
  go_ret;exact⟨by rw[HE.out];rfl,HB.out⟩
 by_cases g1:s.id<8
 rotate_left
 ·have HE:Hid (R=false):=bA.out fun h=>g1 (by have:=h.2.2.1.2;omega);have e1:decide (s.id<8)=false:=decide_eq_false g1;go_enter Tryz.func13,Tryz.ntmps13;go_wp2_with fail
  try rw[hW0]
  go_ret;exact⟨by rw[HE.out];rfl,HB.out⟩
 by_cases g2:1≤s.epoch
 rotate_left
 ·have HE:Hid (R=false):=bA.out fun h=>g2 h.2.2.2.1;have e2:decide (1≤s.epoch)=false:=decide_eq_false g2;go_enter Tryz.func13,Tryz.ntmps13;go_wp2_with fail
  try rw[hW0]
  go_ret;exact⟨by rw[HE.out];rfl,HB.out⟩
 by_cases g3:s.epoch≤9007199254740992
 rotate_left
 ·have HE:Hid (R=false):=bA.out fun h=>g3 h.2.2.2.2;have e3:decide (s.epoch≤9007199254740992)=false:=decide_eq_false g3;go_enter Tryz.func13,Tryz.ntmps13;go_wp2_with fail
  try rw[hW0]
  go_ret;exact⟨by rw[HE.out];rfl,HB.out⟩
 have GG:Hid ((0≤s.id∧s.id≤7)∧1≤s.epoch∧s.epoch≤9007199254740992):=⟨⟨g0,by omega⟩,g2,g3⟩;have e3:decide (s.epoch≤9007199254740992)=true:=decide_eq_true g3;go_enter Tryz.func13,Tryz.ntmps13;go_wp2_with fail
 try rw[hW0]
 ((with_reducible refine q1.mono ?_);rintro e W1 ⟨rfl,b1⟩)
 have q2:=asx s.cache B m cm W1 qN.out.1 (HD.out.below b1) qN.out.2;obtain⟨rd,hrd⟩:∃v,tF s.cache=v:=⟨_,rfl⟩;have lY:Hid (rd=true↔j4 s.cache):=by rw[←hrd];exact Ny
 rw[hrd]at q2;have jl:=ah (aj.below HX.out b1);have HB1:=ah (aA HB.out b1);clear hrd q1 b1 x0 x1 x2 x3 x4;obtain⟨x0,x1,x2,x3,x4⟩:=aZ jl.out
 cases rt with
 |false=>
  have HE:Hid (R=false):=bA.out fun h=>by have:=iC.out.2 h.1;cases this
  go_wp2_with fail;go_ret;exact⟨by rw[HE.out];rfl,HB1.out⟩
 |true=>
 go_wp2_with fail
 ((with_reducible refine q2.mono ?_);rintro e W2 ⟨rfl,b2⟩)
 have HB2:=ah (aA HB1.out b2);clear q2 b2 x0 x1 x2 x3 x4;have HE:Hid (R=rd):=by
  cases rd with
  |false=>exact bA.out fun h=>by have:=lY.out.2 h.2.1;cases this
  |true=>exact iF.out ⟨iC.out.1 (by first|trivial|rfl),lY.out.1 (by first|trivial|rfl),GG.out⟩
 go_wp2_with fail;go_ret;exact⟨by rw[HE.out];rfl,HB2.out⟩
theorem asV (s t:ShR) (A B C D:Option Addr) (n cap m cm p cp q cq:Nat) (w:World) (h:bL w s A n cap B m cm) (hz:rC n m) (h2:bL w t C p cp D q cq) (hz2:rC p q):
  Calls Tryz.prog 15 #[d_ s (.slice A n cap) (.slice B m cm),d_ t (.slice C p cp) (.slice D q cq)] w fun e w'=>e= .returned (.bool (wO s t))∧Below w.heap.size w w':=by
 have bA:Hid (s≠t→wO s t=false):=fun h=>by rw[Bool.eq_false_iff];exact fun e=>h (NJ.1 e)
 have iF:Hid (s=t→wO s t=true):=NJ.2;generalize wO s t=R at*;have hb:Below w.heap.size w ((w.alloc (.cells (aS s (.slice A n cap) (.slice B m cm)) 26)).alloc (.cells (aS t (.slice C p cp) (.slice D q cq)) 26)):=(ak _ _).alloc (by simp) _;have hx:=aj.below (aj.new w (.cells (aS s (.slice A n cap) (.slice B m cm)) 26)) (ak _ (.cells (aS t (.slice C p cp) (.slice D q cq)) 26));have hy:=aj.new (w.alloc (.cells (aS s (.slice A n cap) (.slice B m cm)) 26)) (.cells (aS t (.slice C p cp) (.slice D q cq)) 26);rw[World.size_alloc]at hy;obtain⟨W0,hW0⟩:=aQ ((w.alloc (.cells (aS s (.slice A n cap) (.slice B m cm)) 26)).alloc (.cells (aS t (.slice C p cp) (.slice D q cq)) 26));rw[hW0]at hb hx hy;have q1:=asZ s.table t.table A C n p cap cp W0 h.1 h2.1 (h.2.2.1.below hb) (h2.2.2.1.below hb) hz.1 hz2.1;have HD:=ah (h.2.2.2.below hb);have HD2:=ah (h2.2.2.2.below hb);have qN:Hid (m≤cm∧q≤cq∧m*72≤140737488351232∧q*72≤140737488351232):=⟨h.2.1,h2.2.1,hz.2,hz2.2⟩;have HX:=ah hx;clear hx;have HY:=ah hy;clear hy;have HB:=ah hb;clear hb h h2 hz hz2;obtain⟨rt,hrt⟩:∃v,zi s.table t.table=v:=⟨_,rfl⟩;have iC:Hid (rt=true↔s.table=t.table):=by rw[←hrt];exact Jp
 rw[hrt]at q1;clear hrt;obtain⟨x0,x1,x2,x3,x4⟩:=aZ HX.out;obtain⟨y0,y1,y2,y3,y4⟩:=aZ HY.out;unfold d_
 by_cases g0:s.id=t.id
 rotate_left
 ·have HE:Hid (R=false):=bA.out fun e=>g0 (by rw[e]);have e0:(s.id==t.id)=false:=by rw[beq_eq_false_iff_ne];exact g0
  clear g0;go_enter Tryz.func15,Tryz.ntmps15;go_wp2_with fail
  try rw[hW0]
  go_ret;exact⟨by rw[HE.out];rfl,HB.out⟩
 have e0:(s.id==t.id)=true:=by rw[beq_iff_eq];exact g0
 have G0:=ah g0;clear g0
 by_cases g1:s.epoch=t.epoch
 rotate_left
 ·have HE:Hid (R=false):=bA.out fun e=>g1 (by rw[e]);have e1:(s.epoch==t.epoch)=false:=by rw[beq_eq_false_iff_ne];exact g1
  clear g1;go_enter Tryz.func15,Tryz.ntmps15;go_wp2_with fail
  try rw[hW0]
  go_ret;exact⟨by rw[HE.out];rfl,HB.out⟩
 have e1:(s.epoch==t.epoch)=true:=by rw[beq_iff_eq];exact g1
 have G1:=ah g1;clear g1
 by_cases g2:s.frozen=t.frozen
 rotate_left
 ·have HE:Hid (R=false):=bA.out fun e=>g2 (by rw[e]);have e2:(s.frozen==t.frozen)=false:=by rw[beq_eq_false_iff_ne];exact g2
  clear g2;go_enter Tryz.func15,Tryz.ntmps15;go_wp2_with fail
  try rw[hW0]
  go_ret;exact⟨by rw[HE.out];rfl,HB.out⟩
 have e2:(s.frozen==t.frozen)=true:=by rw[beq_iff_eq];exact g2
 have G2:=ah g2;clear g2;go_enter Tryz.func15,Tryz.ntmps15;go_wp2_with fail
 try rw[hW0]
 ((with_reducible refine q1.mono ?_);rintro e W1 ⟨rfl,b1⟩)
 have q2:=asX s.cache t.cache B D m cm q cq W1 qN.out.1 qN.out.2.1 (HD.out.below b1) (HD2.out.below b1) qN.out.2.2.1 qN.out.2.2.2;obtain⟨rd,hrd⟩:∃v,zh s.cache t.cache=v:=⟨_,rfl⟩;have lY:Hid (rd=true↔s.cache=t.cache):=by rw[←hrd];exact NI
 rw[hrd]at q2;have jl:=ah (aj.below HX.out b1);have Eb:=ah (aj.below HY.out b1);have HB1:=ah (aA HB.out b1);clear hrd q1 b1 x0 x1 x2 x3 x4 y0 y1 y2 y3 y4;obtain⟨x0,x1,x2,x3,x4⟩:=aZ jl.out;obtain⟨y0,y1,y2,y3,y4⟩:=aZ Eb.out
 cases rt with
 |false=>
  have HE:Hid (R=false):=bA.out fun h=>by have:=iC.out.2 (by rw[h]);cases this
  go_wp2_with fail;go_ret;exact⟨by rw[HE.out];rfl,HB1.out⟩
 |true=>
 go_wp2_with fail
 ((with_reducible refine q2.mono ?_);rintro e W2 ⟨rfl,b2⟩)
 have HB2:=ah (aA HB1.out b2);clear q2 b2 x0 x1 x2 x3 x4 y0 y1 y2 y3 y4;have HE:Hid (R=rd):=by
  cases rd with
  |false=>exact bA.out fun h=>by have:=lY.out.2 (by rw[h]);cases this
  |true=>exact iF.out (by
    have k0:=G0.out;have k1:=G1.out;have k2:=G2.out;have k3:=iC.out.1 (by first|trivial|rfl);have k4:=lY.out.1 (by first|trivial|rfl);obtain⟨a,b,d,e,f⟩:=s;obtain⟨a',b',d',e',f'⟩:=t;simp only at k0 k1 k2 k3 k4;subst k0 k1 k2 k3 k4;rfl)
 go_wp2_with fail;go_ret;exact⟨by rw[HE.out];rfl,HB2.out⟩
theorem ash (v:Int) (s:ShR) (c:iM) (A B:Option Addr) (n cap m cm:Nat) (w:World) (hv:(Lit.int .i64 v).wf=true) (h:bL w s A n cap B m cm) (hz:rC n m) (hc:oH c):
  Calls Tryz.prog 38 #[.int .i64 v,d_ s (.slice A n cap) (.slice B m cm),ko c] w fun e w'=>e= .returned (.int .i64 (iE v s c))∧Below w.heap.size w w':=by
 have HBAD:Hid (¬(fq s∧(v=1∨v=2)∧iN c.client c.id)→iE v s c=1):=fun h=>if_pos h;have lX:Hid ((fq s∧(v=1∨v=2)∧iN c.client c.id)→iE v s c=if c.fZ≠s.id then 83 else if c.epoch≠s.epoch then 80 else dY v c.op):=fun h=>if_neg (fun hn=>hn h);generalize iE v s c=R at*;have hb:Below w.heap.size w ((w.alloc (.cells (aS s (.slice A n cap) (.slice B m cm)) 26)).alloc (.cells (aL c) 31)):=(ak _ _).alloc (by simp) _;have hx:=aj.below (aj.new w (.cells (aS s (.slice A n cap) (.slice B m cm)) 26)) (ak _ (.cells (aL c) 31));have hy:=aj.new (w.alloc (.cells (aS s (.slice A n cap) (.slice B m cm)) 26)) (.cells (aL c) 31);rw[World.size_alloc]at hy;obtain⟨W0,hW0⟩:=aQ ((w.alloc (.cells (aS s (.slice A n cap) (.slice B m cm)) 26)).alloc (.cells (aL c) 31));rw[hW0]at hb hx hy;have nA:=ah (h.below hb);have lu:=ah hz;have kF:=ah hc;have PL:=ah hv;have HX:=ah hx;clear hx;have HY:=ah hy;clear hy;have HB:=ah hb;clear hb h hz hv;have q2:=aqu [] c.client c.id none 0 0 W0 (Nat.le_refl _) (FQ _ _) (by decide) hc.2.2.1 hc.2.2.2.1;clear hc;rw[agC]at q2;obtain⟨g,hg⟩:∃g:Nat,(if iN c.client c.id then 70 else 1)=g:=⟨_,rfl⟩;rw[hg]at q2;have HG:=ah hg;clear hg;obtain⟨c0,c1,c2,c3,c4,c5,c6,c7,c8,c9,c10⟩:=iI HY.out;unfold d_ ko;go_enter Tryz.func38,Tryz.ntmps38;go_wp2_with fail
 try rw[hW0]
 ((with_reducible refine q2.mono ?_);rintro e W2 ⟨K,k,kc,rfl,_,_,b2⟩)
 unfold bX lK;clear c0 c1 c2 c3 c4 c5 c6 c7 c8 c9 c10 q2;have hal:=b2.alloc b2.size (.cells #[.int .i64 (0:Nat),.int .i64 0,.string ByteArray.empty,.slice K k kc] 43);go_upto_region 2 with fail;obtain⟨V,hV⟩:=aQ (W2.alloc (.cells #[.int .i64 0,.int .i64 0,.string ByteArray.empty,.slice K k kc] 43));have En:Below W0.heap.size W0 V:=by rw[←hV];exact hal
 try rw[hV]
 clear hV hal b2 hW0;have jP:=ah (aj.below HX.out En);have Mj:=ah (aj.below HY.out En);have HB3:=ah (aA HB.out En);have akC:=ah (bL.below nA.out En);clear En;have qv:=aa2 v V;obtain⟨bv,hbv⟩:∃b,decide (v=1∨v=2)=b:=⟨_,rfl⟩;have eT:Hid (bv=true↔(v=1∨v=2)):=by rw[←hbv];exact decide_eq_true_iff
 rw[hbv]at qv;clear hbv;go_wp2_with fail
 ((with_reducible refine qv.mono ?_);rintro e V1 ⟨rfl,b_⟩)
 have jV:=ah (aj.below jP.out b_);have YS:=ah (aj.below Mj.out b_);have cB:=ah (aA HB3.out b_);have akD:=ah (bL.below akC.out b_);clear b_ qv
 cases bv with
 |false=>
  have HE:Hid (R=1):=HBAD.out fun h=>by have:=eT.out.2 h.2.1;cases this
  go_wp2_with fail;go_ret;exact⟨by rw[HE.out];rfl,cB.out⟩
 |true=>
 have q1:=VN s A B n cap m cm V1 akD.out lu.out;unfold d_ at q1;obtain⟨rt,hrt⟩:∃v,rT s=v:=⟨_,rfl⟩;have iC:Hid (rt=true↔fq s):=by rw[←hrt];exact La
 rw[hrt]at q1;clear hrt;obtain⟨x0,x1,x2,x3,x4⟩:=aZ jV.out;go_wp2_with fail
 ((with_reducible refine q1.mono ?_);rintro e V2 ⟨rfl,b_⟩)
 have oL:=ah (aj.below jV.out b_);have YT:=ah (aj.below YS.out b_);have eH:=ah (aA cB.out b_);clear b_ q1 x0 x1 x2 x3 x4
 cases rt with
 |false=>
  have HE:Hid (R=1):=HBAD.out fun h=>by have:=iC.out.2 h.1;cases this
  go_wp2_with fail;go_ret;exact⟨by rw[HE.out];rfl,eH.out⟩
 |true=>
 by_cases hgc:iN c.client c.id
 rotate_left
 ·have HE:Hid (R=1):=HBAD.out fun h=>hgc h.2.2;have hg1:g=1:=by have:=HG.out;rw[if_neg hgc]at this;exact this.symm
  subst hg1;clear hgc;go_wp2_with fail;go_ret;exact⟨by rw[HE.out];rfl,eH.out⟩
 have hg1:g=70:=by have:=HG.out;rw[if_pos hgc]at this;exact this.symm
 subst hg1;have HO:=ah (lX.out ⟨iC.out.1 (by first|trivial|rfl),eT.out.1 (by first|trivial|rfl),hgc⟩);clear hgc;obtain⟨x0,x1,x2,x3,x4⟩:=aZ oL.out;obtain⟨c0,c1,c2,c3,c4,c5,c6,c7,c8,c9,c10⟩:=iI YT.out
 by_cases h1:c.fZ=s.id
 rotate_left
 ·have HE:Hid (R=83):=by show _=_;rw[HO.out,if_pos h1]
  have e3:(c.fZ != s.id)=true:=by rw[bne_iff_ne];exact h1
  clear h1;go_wp2_with fail;go_ret;exact⟨by rw[HE.out];rfl,eH.out⟩
 have e3:(c.fZ != s.id)=false:=by rw[bne_eq_false_iff_eq];exact h1
 have H1:=ah h1;clear h1
 by_cases h2:c.epoch=s.epoch
 rotate_left
 ·have HE:Hid (R=80):=by show _=_;rw[HO.out,if_neg (fun h=>h H1.out),if_pos h2]
  have e4:(c.epoch != s.epoch)=true:=by rw[bne_iff_ne];exact h2
  clear h2;go_wp2_with fail;go_ret;exact⟨by rw[HE.out];rfl,eH.out⟩
 have e4:(c.epoch != s.epoch)=false:=by rw[bne_eq_false_iff_eq];exact h2
 have HE:Hid (R=dY v c.op):=by show _=_;rw[HO.out,if_neg (fun h=>h H1.out),if_neg (fun h=>h h2)]
 clear h2;have q3:=fun W=>anp v c.op PL.out kF.out.2.2.2.2 W;unfold gU at q3;go_wp2_with fail
 ((with_reducible refine(q3 _).mono ?_);rintro e W9 ⟨rfl,b9⟩)
 have jo:=ah (aA eH.out b9);clear b9 q3;go_wp2_with fail;go_ret;exact⟨by rw[HE.out];rfl,jo.out⟩
theorem anJ (t:List au) (A:Option Addr) (n cap:Nat) (w:World) (h:gW w A n t) (h20:n≤1000):
  Calls Tryz.prog 89 #[.slice A n cap] w (PW w t):=by
 obtain⟨l,hlm,hps,hex⟩:=h.pairs;have HN:Hid (n=l.length):=hps.1;have q:=aeH A n cap l w hps hex.sl h20;have OW:=ah hlm;clear hlm hps h;have wW:=ah hex;clear hex;go_enter Tryz.func89,Tryz.ntmps89;go_wp2_with fail
 ((with_reducible refine q.mono ?_);rintro e W1 ⟨v,rfl,hrow,b1⟩)
 clear q;obtain⟨A1,dP,hv,hc1,_⟩:=hrow.parts;rw[←HN.out]at hv;subst hv;have HR1:=ah hrow;clear hrow;have HB1:=ah b1;clear b1;go_wp2_with fail;go_loopw [9] (fun i wy=>∃(k:Nat) (wr:World) (lk:List (au×Value)),wr=wy∧k≤n∧i= .int .i64 k∧bf wr w.heap.size (.slice A1 n dP) lk∧lk.map Prod.fst=l.map Prod.fst∧(∀j,j<k→oQ wr (aK lk j))∧(∀j,k≤j→aK lk j=aK l j)∧Below w.heap.size w wr) (fun i _=>n-(intOf i).toNat)
 case atStart=>exact⟨0,_,l,rfl,by omega,rfl,HR1.out,rfl,(fun j hj=>by omega),(fun j hj=>rfl),HB1.out⟩
 case round=>
  clear HR1 HB1;obtain⟨k,wr,lk,rfl,hk,rfl,hrow,hmap,hdone,hrest,hb⟩:=hrel;have eY:=ah hrow;clear hrow;have g_:=ah hmap;clear hmap;have Gt:=ah hdone;clear hdone;have Ch:=ah hrest;clear hrest;have HB:=ah hb;clear hb;have lq:Hid (lk.length=n):=by have:=congrArg List.length g_.out;simp only[List.length_map]at this;show _=_;have:=HN.out;omega
  by_cases hlt:k<n
  ·have hki:(k:Int)<(n:Int):=by omega
   have hk0:(0:Int)≤(k:Int):=by omega
   have qM:Hid (k<lk.length):=by have:=lq.out;show k<_;omega
   have AZ:Hid (k<l.length):=by have:=HN.out;show k<_;omega
   obtain⟨g,hA,hbg⟩:=eY.out.qh qM.out;subst hA;obtain⟨hrw,E,m,c,he,hmc,hfs⟩:=wW.out _ (yM AZ.out);have hx:=eY.out.six qM.out;rw[Ch.out k (Nat.le_refl _),he]at hx;obtain⟨x0,x1,x2,x3,x4,x5⟩:=hx;have HRW:=ah hrw;clear hrw;have HKK:Hid ((aK lk k).1=(aK l k).1):=by show _=_;rw[Ch.out k (Nat.le_refl _)]
   have q:=aeG E m c (aK l k).1.extra wr (hfs.below HB.out) (by have h1:=HRW.out.2.2.2;have h2:=hfs.1;omega);have Pb:Hid (∀E2 m2 c2 (W:World),m2≤c2→dh W E2 m2 (aK l k).1.extra→Gc W E2 m2→oQ W ((aK l k).1,.slice E2 m2 c2)):=fun E2 m2 c2 W h1 h2 h3=>⟨E2,m2,c2,rfl,h1,h2,h3⟩;clear hfs he;have rO:wr.frozen? ⟨g,k*6+5,none⟩=false:=eY.out.frozen;have gu:Hid (∀(W:World) (u:Value),bf W w.heap.size (.slice (some ⟨g,0,none⟩) n dP) lk→bf (W.setCell ⟨g,k*6+5,none⟩ u) w.heap.size (.slice (some ⟨g,0,none⟩) n dP) (lk.set k ((aK l k).1,u))):=fun W u h=>(bf.set h k 5 u ((aK l k).1,u) qM.out (by omega) (by rw[←HKK.out];rfl)).1;have Gr:Hid (∀(W:World),bf W w.heap.size (.slice (some ⟨g,0,none⟩) n dP) lk→∃cs fr,W.heap[g]? =some (.cells cs 68 fr)):=fun W h=>h.block g (by simp[Value.ownBlock]);have zA:Hid (∀u,(lk.set k ((aK l k).1,u)).map Prod.fst=l.map Prod.fst):=fun u=>by
    rw[Jb,g_.out];refine List.ext_getElem (by simp) fun i h1 h2=>?_;rw[List.getElem_set];split
    ·rename_i e;subst e;rw[List.getElem_map,sJ AZ.out]
    ·rfl
   have vo:g<wr.heap.size:=by obtain⟨cs,fr,h2⟩:=Gr.out wr eY.out;exact fF h2
   generalize(aK l k).1=r at*;go_wp2_with fail
   ((with_reducible refine q.mono ?_);rintro e W2 ⟨E2,m2,c2,rfl,IU,mD,vg,b2⟩)
   clear q;have y5:=(b2.cell (p:=⟨g,k*6+5,none⟩) vo).trans x5;have g5:=(b2.frozen (p:=⟨g,k*6+5,none⟩) vo).trans rO;have hrow2:=eY.out.below b2;have HR3:=ah (gu.out W2 (.slice E2 m2 c2) hrow2);obtain⟨cs2,zR,hblk2⟩:=Gr.out W2 hrow2;have hkeep:=rG W2 g (k*6+5) (.slice E2 m2 c2);have jP:Hid (oQ (W2.setCell ⟨g,k*6+5,none⟩ (.slice E2 m2 c2)) (r,.slice E2 m2 c2)):=(Pb.out E2 m2 c2 W2 IU mD vg).kept hkeep (fun q hq=>by cases hq;exact⟨_,_,hblk2⟩);have HD3:Hid (∀j,j<k→oQ (W2.setCell ⟨g,k*6+5,none⟩ (.slice E2 m2 c2)) (aK lk j)):=fun j hj=>((Gt.out j hj).below b2).kept hkeep (fun q hq=>by cases hq;exact⟨_,_,hblk2⟩);have HB3:Hid (Below w.heap.size w (W2.setCell ⟨g,k*6+5,none⟩ (.slice E2 m2 c2))):=(aA HB.out b2).setCell (p:=⟨g,k*6+5,none⟩) hbg _;clear x0 x1 x2 x3 x4 x5 rO hrow2 hblk2 hkeep mD vg IU b2 vo;go_wp2_with fail;go_roundw
   case rel=>
    refine⟨k+1,_,lk.set k (r,.slice E2 m2 c2),rfl,by omega,by go_num,HR3.out,zA.out _,fun j hj=>?_,fun j hj=>?_,HB3.out⟩
    ·rcases(by omega:j<k∨j=k)with h|rfl
     ·have:aK (lk.set k (r,.slice E2 m2 c2)) j=aK lk j:=by
       have h1:=lq.out;rw[sJ (by rw[List.length_set];omega),List.getElem_set_ne (by omega),sJ (by omega)]
      rw[this];exact HD3.out j h
     ·rw[xD qM.out];exact jP.out
    ·have:aK (lk.set k (r,.slice E2 m2 c2)) j=aK lk j:=by
      unfold aK;rw[List.getD_eq_getElem?_getD,List.getD_eq_getElem?_getD,List.getElem?_set_ne (by omega)]
     rw[this];exact Ch.out j (by omega)
   case measure=>simp[intOf];omega
  ·have hke:k=n:=by omega
   subst hke;have iH:Hid (fK wr lk):=fun p hp=>by
    obtain⟨j,hj,rfl⟩:=List.getElem_of_mem hp;have h1:=Gt.out j (by have:=lq.out;omega);rw[sJ hj]at h1;refine⟨?_,h1⟩;have hj2:j<l.length:=by have:=lq.out;have:=HN.out;omega
    have h2:=(wW.out _ (yM hj2)).1;have h3:(aK l j).1=(aK lk j).1:=by
     rw[Cz l hj2,Cz lk hj,g_.out]
    rw[h3,sJ hj]at h2;exact h2
   have zB:Hid (lk.map Prod.fst=t):=g_.out.trans OW.out;clear hlt;go_wp2_with fail;go_ret;exact⟨_,lk,rfl,eY.out,zB.out,iH.out,HB.out⟩
theorem K_:oM:=fun s A B n cap m cm w _ h hz=>VN s A B n cap m cm w h hz
theorem Ld:oZ:=fun s t A B C D n cap m cm p cp q cq w _ _ h hz h2 hz2=>asV s t A B C D n cap m cm p cp q cq w h hz h2 hz2
end Go.Proofs.YtodaapcohdpenaaGreat
