-- eB
import Derived.Test.YtodaapcohdpenaaGreatGSq
import Derived.Test.YtodaapcohdpenaaGreatSh
import Derived.Test.YtodaapcohdpenaaGreatGShM
import Derived.Test.YtodaapcohdpenaaGreatGTabD
import Derived.Test.YtodaapcohdpenaaGreatGRp
namespace Go.Proofs.YtodaapcohdpenaaGreat
open Go.RowKit
set_option linter.unusedSimpArgs false
set_option linter.unusedVariables false
set_option maxHeartbeats 8000000
set_option maxRecDepth 100000
theorem agC (c i:Int):dJ [] c i=(lK,if iN c i then 70 else 1):=by
 unfold dJ
 by_cases h:iN c i
 ·rw[if_neg (fun e=>e ⟨Nz,h⟩),if_pos h];rfl
 ·rw[if_pos (fun e=>h e.2),if_neg h]
theorem ahh (s:ShR) (A B:Option Addr) (n cap m cm:Nat) (w:World) (h:bL w s A n cap B m cm):
  Calls Tryz.prog 14 #[d_ s (.slice A n cap) (.slice B m cm)] w fun e w'=>e= .returned (.bool (rT s))∧Below w.heap.size w w':=by
 have bA:Hid (¬fq s→rT s=false):=VO;have iF:Hid (fq s→rT s=true):=La.2;generalize rT s=R at*;have hb:Below w.heap.size w (w.alloc (.cells (aS s (.slice A n cap) (.slice B m cm)) 26)):=ak _ _;have hx:=aj.new w (.cells (aS s (.slice A n cap) (.slice B m cm)) 26);obtain⟨W0,hW0⟩:=aQ (w.alloc (.cells (aS s (.slice A n cap) (.slice B m cm)) 26));rw[hW0]at hb hx;have q1:=ahf s.table A n cap W0 (h.2.2.1.below hb);have HD:=ah (h.2.2.2.below hb);have HX:=ah hx;clear hx;have HB:=ah hb;clear hb h;obtain⟨rt,hrt⟩:∃v,wN s.table=v:=⟨_,rfl⟩;have iC:Hid (rt=true↔iO s.table):=by rw[←hrt];exact Lb
 rw[hrt]at q1;clear hrt;obtain⟨x0,x1,x2,x3,x4⟩:=aZ HX.out;unfold d_;go_enter Tryz.func14,Tryz.ntmps14;go_wp2_with fail
 ((with_reducible refine q1.mono ?_);rintro e W1 ⟨rfl,b1⟩)
 have q2:=ahg s.cache B m cm W1 (HD.out.below b1);obtain⟨rd,hrd⟩:∃v,tF s.cache=v:=⟨_,rfl⟩;have lY:Hid (rd=true↔j4 s.cache):=by rw[←hrd];exact Ny
 rw[hrd]at q2;have jl:=ah (aj.below HX.out b1);have HB1:=ah (aA HB.out b1);clear hrd q1 b1 x0 x1 x2 x3 x4;obtain⟨x0,x1,x2,x3,x4⟩:=aZ jl.out;go_wp2_with fail
 ((with_reducible refine q2.mono ?_);rintro e W2 ⟨rfl,b2⟩)
 have iR:=ah (aj.below jl.out b2);have HB2:=ah (aA HB1.out b2);clear q2 b2 x0 x1 x2 x3 x4;obtain⟨x0,x1,x2,x3,x4⟩:=aZ iR.out
 cases rt with
 |false=>
  have HE:Hid (R=false):=bA.out fun h=>by have:=iC.out.2 h.1;cases this
  go_wp2_with fail;go_ret;exact⟨by rw[HE.out];rfl,HB2.out⟩
 |true=>
 cases rd with
 |false=>
  have HE:Hid (R=false):=bA.out fun h=>by have:=lY.out.2 h.2.1;cases this
  go_wp2_with fail;go_ret;exact⟨by rw[HE.out];rfl,HB2.out⟩
 |true=>
 by_cases g0:0≤s.id
 rotate_left
 ·have HE:Hid (R=false):=bA.out fun h=>g0 h.2.2.1.1;go_wp2_with fail;go_ret;exact⟨by rw[HE.out];rfl,HB2.out⟩
 by_cases g1:s.id≤7
 rotate_left
 ·have HE:Hid (R=false):=bA.out fun h=>g1 h.2.2.1.2;go_wp2_with fail;go_ret;exact⟨by rw[HE.out];rfl,HB2.out⟩
 by_cases g2:1≤s.epoch
 rotate_left
 ·have HE:Hid (R=false):=bA.out fun h=>g2 h.2.2.2.1;go_wp2_with fail;go_ret;exact⟨by rw[HE.out];rfl,HB2.out⟩
 by_cases g3:s.epoch≤9007199254740992
 rotate_left
 ·have HE:Hid (R=false):=bA.out fun h=>g3 h.2.2.2.2;go_wp2_with fail;go_ret;exact⟨bC (by rw[HE.out];exact decide_eq_false (by omega)),HB2.out⟩
 have HE:Hid (R=true):=iF.out ⟨iC.out.1 (by first|trivial|rfl),lY.out.1 (by first|trivial|rfl),⟨g0,g1⟩,g2,g3⟩;go_wp2_with fail;go_ret;exact⟨by rw[HE.out];rfl,HB2.out⟩
theorem Ev (s t:ShR) (A B C D:Option Addr) (n cap m cm p cp q cq:Nat) (w:World) (h:bL w s A n cap B m cm) (h2:bL w t C p cp D q cq):
  Calls Tryz.prog 16 #[d_ s (.slice A n cap) (.slice B m cm),d_ t (.slice C p cp) (.slice D q cq)] w fun e w'=>e= .returned (.bool (wO s t))∧Below w.heap.size w w':=by
 have bA:Hid (s≠t→wO s t=false):=fun h=>by rw[Bool.eq_false_iff];exact fun e=>h (NJ.1 e)
 have iF:Hid (s=t→wO s t=true):=NJ.2;generalize wO s t=R at*;have hb:Below w.heap.size w ((w.alloc (.cells (aS s (.slice A n cap) (.slice B m cm)) 26)).alloc (.cells (aS t (.slice C p cp) (.slice D q cq)) 26)):=(ak _ _).alloc (by simp) _;have hx:=aj.below (aj.new w (.cells (aS s (.slice A n cap) (.slice B m cm)) 26)) (ak _ (.cells (aS t (.slice C p cp) (.slice D q cq)) 26));have hy:=aj.new (w.alloc (.cells (aS s (.slice A n cap) (.slice B m cm)) 26)) (.cells (aS t (.slice C p cp) (.slice D q cq)) 26);rw[World.size_alloc]at hy;obtain⟨W0,hW0⟩:=aQ ((w.alloc (.cells (aS s (.slice A n cap) (.slice B m cm)) 26)).alloc (.cells (aS t (.slice C p cp) (.slice D q cq)) 26));rw[hW0]at hb hx hy;have q1:=abo s.table t.table A C n p cap cp W0 (h.2.2.1.below hb) (h2.2.2.1.below hb);have HD:=ah (h.2.2.2.below hb);have HD2:=ah (h2.2.2.2.below hb);have HX:=ah hx;clear hx;have HY:=ah hy;clear hy;have HB:=ah hb;clear hb h h2;obtain⟨rt,hrt⟩:∃v,zi s.table t.table=v:=⟨_,rfl⟩;have iC:Hid (rt=true↔s.table=t.table):=by rw[←hrt];exact Jp
 rw[hrt]at q1;clear hrt;obtain⟨x0,x1,x2,x3,x4⟩:=aZ HX.out;obtain⟨y0,y1,y2,y3,y4⟩:=aZ HY.out;unfold d_;go_enter Tryz.func16,Tryz.ntmps16;go_wp2_with fail
 ((with_reducible refine q1.mono ?_);rintro e W1 ⟨rfl,b1⟩)
 have q2:=asg s.cache t.cache B D m q cm cq W1 (HD.out.below b1) (HD2.out.below b1);obtain⟨rd,hrd⟩:∃v,zh s.cache t.cache=v:=⟨_,rfl⟩;have lY:Hid (rd=true↔s.cache=t.cache):=by rw[←hrd];exact NI
 rw[hrd]at q2;have jl:=ah (aj.below HX.out b1);have Eb:=ah (aj.below HY.out b1);have HB1:=ah (aA HB.out b1);clear hrd q1 b1 x0 x1 x2 x3 x4 y0 y1 y2 y3 y4;obtain⟨x0,x1,x2,x3,x4⟩:=aZ jl.out;obtain⟨y0,y1,y2,y3,y4⟩:=aZ Eb.out;go_wp2_with fail
 ((with_reducible refine q2.mono ?_);rintro e W2 ⟨rfl,b2⟩)
 have iR:=ah (aj.below jl.out b2);have YR:=ah (aj.below Eb.out b2);have HB2:=ah (aA HB1.out b2);clear q2 b2 x0 x1 x2 x3 x4 y0 y1 y2 y3 y4;obtain⟨x0,x1,x2,x3,x4⟩:=aZ iR.out;obtain⟨y0,y1,y2,y3,y4⟩:=aZ YR.out
 cases rt with
 |false=>
  have HE:Hid (R=false):=bA.out fun h=>by have:=iC.out.2 (by rw[h]);cases this
  go_wp2_with fail;go_ret;exact⟨by rw[HE.out];rfl,HB2.out⟩
 |true=>
 cases rd with
 |false=>
  have HE:Hid (R=false):=bA.out fun h=>by have:=lY.out.2 (by rw[h]);cases this
  go_wp2_with fail;go_ret;exact⟨by rw[HE.out];rfl,HB2.out⟩
 |true=>
 by_cases g0:s.id=t.id
 rotate_left
 ·have HE:Hid (R=false):=bA.out fun e=>g0 (by rw[e]);have e0:(s.id==t.id)=false:=by rw[beq_eq_false_iff_ne];exact g0
  clear g0;go_wp2_with fail;go_ret;exact⟨by rw[HE.out];rfl,HB2.out⟩
 have e0:(s.id==t.id)=true:=by rw[beq_iff_eq];exact g0
 have G0:=ah g0;clear g0
 by_cases g1:s.epoch=t.epoch
 rotate_left
 ·have HE:Hid (R=false):=bA.out fun e=>g1 (by rw[e]);have e1:(s.epoch==t.epoch)=false:=by rw[beq_eq_false_iff_ne];exact g1
  clear g1;go_wp2_with fail;go_ret;exact⟨by rw[HE.out];rfl,HB2.out⟩
 have e1:(s.epoch==t.epoch)=true:=by rw[beq_iff_eq];exact g1
 have G1:=ah g1;clear g1
 by_cases g2:s.frozen=t.frozen
 rotate_left
 ·have HE:Hid (R=false):=bA.out fun e=>g2 (by rw[e]);have e2:(s.frozen==t.frozen)=false:=by rw[beq_eq_false_iff_ne];exact g2
  clear g2;go_wp2_with fail;go_ret;exact⟨by rw[HE.out];rfl,HB2.out⟩
 have e2:(s.frozen==t.frozen)=true:=by rw[beq_iff_eq];exact g2
 have G2:=ah g2;clear g2;have HE:Hid (R=true):=iF.out (by
  have k0:=G0.out;have k1:=G1.out;have k2:=G2.out;have k3:=iC.out.1 (by first|trivial|rfl);have k4:=lY.out.1 (by first|trivial|rfl);obtain⟨a,b,d,e,f⟩:=s;obtain⟨a',b',d',e',f'⟩:=t;simp only at k0 k1 k2 k3 k4;subst k0 k1 k2 k3 k4;rfl)
 go_wp2_with fail;go_ret;exact⟨by rw[HE.out];rfl,HB2.out⟩
theorem VF (x:Nat) (w:World):Calls Tryz.prog 46 #[.int .i64 x] w fun e w'=>e= .returned (.agg (bR x (.slice none 0 0)))∧Below w.heap.size w w':=by
 have hb:=aj.new w (.cells (bR x (.slice none 0 0)) 43);obtain⟨z0,z1,z2,z3⟩:=aY hb;clear hb;go_enter Tryz.func46,Tryz.ntmps46;go_wp2_with fail;refine bodyPost_ret (v:=.agg (bR x (.slice none 0 0))) (by simp[results,Tryz.results46,go_sem,z0,z1,z2,z3]) rfl ⟨rfl,(Below.refl _ _).alloc (Nat.le_refl _) _⟩
theorem asj (v:Int) (s:ShR) (c:iM) (A B:Option Addr) (n cap m cm:Nat) (w:World) (h:bL w s A n cap B m cm):
  Calls Tryz.prog 45 #[.int .i64 v,d_ s (.slice A n cap) (.slice B m cm),ko c] w fun e w'=>e= .returned (.int .i64 (iE v s c))∧Below w.heap.size w w':=by
 have HBAD:Hid (¬(fq s∧(v=1∨v=2)∧iN c.client c.id)→iE v s c=1):=fun h=>if_pos h;have lX:Hid ((fq s∧(v=1∨v=2)∧iN c.client c.id)→iE v s c=if c.fZ≠s.id then 83 else if c.epoch≠s.epoch then 80 else dY v c.op):=fun h=>if_neg (fun hn=>hn h);generalize iE v s c=R at*;have hb:Below w.heap.size w ((w.alloc (.cells (aS s (.slice A n cap) (.slice B m cm)) 26)).alloc (.cells (aL c) 31)):=(ak _ _).alloc (by simp) _;have hx:=aj.below (aj.new w (.cells (aS s (.slice A n cap) (.slice B m cm)) 26)) (ak _ (.cells (aL c) 31));have hy:=aj.new (w.alloc (.cells (aS s (.slice A n cap) (.slice B m cm)) 26)) (.cells (aL c) 31);rw[World.size_alloc]at hy;obtain⟨W0,hW0⟩:=aQ ((w.alloc (.cells (aS s (.slice A n cap) (.slice B m cm)) 26)).alloc (.cells (aL c) 31));rw[hW0]at hb hx hy;have q1:=ahh s A B n cap m cm W0 (h.below hb);unfold d_ at q1;have HX:=ah hx;clear hx;have HY:=ah hy;clear hy;have HB:=ah hb;clear hb h;obtain⟨rt,hrt⟩:∃v,rT s=v:=⟨_,rfl⟩;have iC:Hid (rt=true↔fq s):=by rw[←hrt];exact La
 rw[hrt]at q1;clear hrt;obtain⟨x0,x1,x2,x3,x4⟩:=aZ HX.out;unfold d_ ko;go_enter Tryz.func45,Tryz.ntmps45;go_wp2_with fail
 ((with_reducible refine q1.mono ?_);rintro e W1 ⟨rfl,b1⟩)
 have q2:=ahc [] c.client c.id none 0 0 W1 (FQ _ _);rw[agC]at q2;have jl:=ah (aj.below HX.out b1);have Eb:=ah (aj.below HY.out b1);have HB1:=ah (aA HB.out b1);clear q1 b1 x0 x1 x2 x3 x4;obtain⟨g,hg⟩:∃g:Nat,(if iN c.client c.id then 70 else 1)=g:=⟨_,rfl⟩;rw[hg]at q2;have HG:=ah hg;clear hg;have c2:=aj.cell Eb.out 2;have c3:=aj.cell Eb.out 3;simp only[aM]at c2 c3;go_wp2_with fail
 ((with_reducible refine q2.mono ?_);rintro e W2 ⟨K,k,kc,rfl,_,_,b2⟩)
 unfold bX lK;clear c2 c3 q2;have hal:=b2.alloc b2.size (.cells #[.int .i64 (0:Nat),.int .i64 0,.string ByteArray.empty,.slice K k kc] 43);go_upto_region 3 with fail;obtain⟨V,hV⟩:=aQ (W2.alloc (.cells #[.int .i64 0,.int .i64 0,.string ByteArray.empty,.slice K k kc] 43));have En:Below W1.heap.size W1 V:=by rw[←hV];exact hal
 try rw[hV]
 clear hV hal b2;have jP:=ah (aj.below jl.out En);have Mj:=ah (aj.below Eb.out En);have HB3:=ah (aA HB1.out En);clear En;obtain⟨x0,x1,x2,x3,x4⟩:=aZ jP.out;obtain⟨c0,c1,c2,c3,c4,c5,c6,c7,c8,c9,c10⟩:=iI Mj.out
 cases rt with
 |false=>
  have HE:Hid (R=1):=HBAD.out fun h=>by have:=iC.out.2 h.1;cases this
  go_wp2_with fail;go_ret;exact⟨by rw[HE.out];rfl,HB3.out⟩
 |true=>
 by_cases hv:v=1∨v=2
 rotate_left
 ·have HE:Hid (R=1):=HBAD.out fun h=>hv h.2.1;have e1:(v != 1)=true:=by rw[bne_iff_ne];exact fun e=>hv (.inl e)
  have e2:(v != 2)=true:=by rw[bne_iff_ne];exact fun e=>hv (.inr e)
  clear hv;go_wp2_with fail;go_ret;exact⟨by rw[HE.out];rfl,HB3.out⟩
 have hvv:((v != 1)=true∧(v != 2)=false)∨(v != 1)=false:=by
  rcases hv with e|e
  ·exact .inr (by rw[e];rfl)
  ·exact .inl (by rw[e];exact⟨rfl,rfl⟩)
 by_cases hgc:iN c.client c.id
 rotate_left
 ·have HE:Hid (R=1):=HBAD.out fun h=>hgc h.2.2;have hg1:g=1:=by have:=HG.out;rw[if_neg hgc]at this;exact this.symm
  subst hg1;clear hgc hv;rcases hvv with⟨e1,e2⟩|e1
  ·go_wp2_with fail;go_ret;exact⟨by rw[HE.out];rfl,HB3.out⟩
  ·go_wp2_with fail;go_ret;exact⟨by rw[HE.out];rfl,HB3.out⟩
 have hg1:g=70:=by have:=HG.out;rw[if_pos hgc]at this;exact this.symm
 subst hg1;have HO:=ah (lX.out ⟨iC.out.1 (by first|trivial|rfl),hv,hgc⟩);clear hgc hv
 by_cases h1:c.fZ=s.id
 rotate_left
 ·have HE:Hid (R=83):=by show _=_;rw[HO.out,if_pos h1]
  have e3:(c.fZ != s.id)=true:=by rw[bne_iff_ne];exact h1
  clear h1;rcases hvv with⟨e1,e2⟩|e1
  ·go_wp2_with fail;go_ret;exact⟨by rw[HE.out];rfl,HB3.out⟩
  ·go_wp2_with fail;go_ret;exact⟨by rw[HE.out];rfl,HB3.out⟩
 have e3:(c.fZ != s.id)=false:=by rw[bne_eq_false_iff_eq];exact h1
 have H1:=ah h1;clear h1
 by_cases h2:c.epoch=s.epoch
 rotate_left
 ·have HE:Hid (R=80):=by show _=_;rw[HO.out,if_neg (fun h=>h H1.out),if_pos h2]
  have e4:(c.epoch != s.epoch)=true:=by rw[bne_iff_ne];exact h2
  clear h2;rcases hvv with⟨e1,e2⟩|e1
  ·go_wp2_with fail;go_ret;exact⟨by rw[HE.out];rfl,HB3.out⟩
  ·go_wp2_with fail;go_ret;exact⟨by rw[HE.out];rfl,HB3.out⟩
 have e4:(c.epoch != s.epoch)=false:=by rw[bne_eq_false_iff_eq];exact h2
 have HE:Hid (R=dY v c.op):=by show _=_;rw[HO.out,if_neg (fun h=>h H1.out),if_neg (fun h=>h h2)]
 clear h2;have q3:=fun W=>ag_ v c.op W;unfold gU at q3;rcases hvv with⟨e1,e2⟩|e1
 ·go_wp2_with fail
  ((with_reducible refine(q3 _).mono ?_);rintro e W9 ⟨rfl,b9⟩)
  have jo:=ah (aA HB3.out b9);clear b9 q3;go_wp2_with fail;go_ret;exact⟨by rw[HE.out];rfl,jo.out⟩
 ·go_wp2_with fail
  ((with_reducible refine(q3 _).mono ?_);rintro e W9 ⟨rfl,b9⟩)
  have jo:=ah (aA HB3.out b9);clear b9 q3;go_wp2_with fail;go_ret;exact⟨by rw[HE.out];rfl,jo.out⟩
end Go.Proofs.YtodaapcohdpenaaGreat
