-- eB
import Derived.Test.YtodaapcohdpenaaGreatGSq
import Derived.Test.YtodaapcohdpenaaGreatShLaw
import Derived.Test.YtodaapcohdpenaaGreatShShard
import Derived.Test.YtodaapcohdpenaaGreatShAwake
import Derived.Test.YtodaapcohdpenaaGreatShRef
import Derived.Test.YtodaapcohdpenaaGreatShBackMath
import Derived.Test.YtodaapcohdpenaaGreatShSafe
namespace Go.Proofs.YtodaapcohdpenaaGreat
open Go.RowKit
set_option linter.unusedSimpArgs false
set_option linter.unusedVariables false
set_option maxHeartbeats 40000000
set_option maxRecDepth 100000
theorem anY {v:Int} (hv:v=1∨v=2) (b:List UInt8):pz v b=(nV,11)∨∃s,pz v b=(s,0)∧encS v s=(b,0):=by
 by_cases h:∃s,encS v s=(b,0)
 ·obtain⟨s,hs⟩:=h;exact .inr ⟨s,MU hs,hs⟩
 ·exact .inl (Uw hv fun s hs=>h ⟨s,hs⟩)
theorem aeR {N:Nat} (kD:Lm N) {v:Int} {x:ByteArray} {R:ShR×Nat} (h:pz v x.data.toList=R) (hv:v=1∨v=2) (hb:x.size≤N) (w:World):
  Calls Tryz.prog 24 #[.int .i64 v,.string x] w (Oc w R):=by
 have q:=kD v x w (by rcases hv with rfl|rfl<;>decide) hb;rw[h]at q;exact q
theorem auj {W:World} {b:Nat} {x y z:ByteArray} {T:TypeId} (h:aj W b (.cells #[.string x,.string y,.string z] T (0,0))) {i:Nat} (hi:i<3):∃m,(m=x∨m=y∨m=z)∧W.cell? ⟨b,i,none⟩=some (.string m):=by
 rcases(by omega:i=0∨i=1∨i=2)with rfl|rfl|rfl
 ·exact⟨x,.inl rfl,aj.cell h 0⟩
 ·exact⟨y,.inr (.inl rfl),aj.cell h 1⟩
 ·exact⟨z,.inr (.inr rfl),aj.cell h 2⟩
theorem ath (kR:oM) (kS:oZ) (kA:EI) (kE:Dx) (kD:Dw) {N:Nat} (kX:Lm N) (s:ByteArray) (z1:Int) (a2:Option Addr) (n2 cap2:Nat) (f:Nat→Nat→Int) (qh:Int) (more:ByteArray) (w:World) (hs:s.size≤N) (h1:(Lit.int .i64 z1).wf=true) (h2:zI w a2 n2 7 f) (hat:(Lit.int .i64 qh).wf=true) (hmo:more.size+2000000≤N) (hmb:more.size≤140737488351232):
  Calls Tryz.prog 6 #[.string s,.int .i64 z1,.slice a2 n2 cap2,.int .i64 qh,.string more] w fun e w'=>e= .returned (.bool true)∧Below w.heap.size w w':=by
 have WX:=h1;have gu:=ah (Jq z1 z1 false f n2);have vS:Hid (∀v:Int,v=1∨v=2→∃b,encS v (gJ z1 z1 false f n2)=(b,0)):=fun v hv=>UG hv gu.out (abM z1 z1 false f n2);have rR:=fun W=>NM z1 z1 false f a2 n2 cap2 W;generalize gJ z1 z1 false f n2=S at*;have QSH:=ah rR;clear rR;have HAT:=ah hat;have HS:=ah hs;have HMO:=ah hmo;have HB0:=ah (Below.refl w.heap.size w);have yJ:=ah h2;clear h2 hat hs hmo;go_enter Tryz.func6,Tryz.ntmps6;have rQ:=fun W=>Kn kR kS kA kE.a kD.a W;go_wp2_with fail
 ((with_reducible refine(rQ _).mono ?_);rintro e W1 ⟨rfl,b_⟩)
 have av:=aA HB0.out b_;have nD:=yJ.out.below b_;have HB1:=ah av;clear av;have zH:=ah nD;clear nD;clear b_;clear rQ;go_wp2_with fail;go_loopw [12] (fun i wy=>∃(k:Nat) (wq:World),wq=wy∧1≤k∧k≤3∧i= .int .i64 k∧Below W1.heap.size W1 wq) (fun i _=>3-(intOf i).toNat)
 case atStart=>exact⟨1,_,rfl,by omega,by omega,rfl,Below.refl _ _⟩
 case round=>
  obtain⟨k,wq,rfl,hk1,hk3,rfl,hby⟩:=hrel
  by_cases hlt:k≤2
  ·have hv:(k:Int)=1∨(k:Int)=2:=by omega
   have av:=hby;have nD:=zH.out.below hby;have HB2:=ah av;clear av;have adX:=ah nD;clear nD;clear hby;have rR:=QSH.out wq WX WX adX.out;obtain⟨eb,hE⟩:=vS.out k hv;have zL:=UF hE;have HE:=ah hE;clear hE;have zS:(bs eb).size≤2000000:=by rw[mR];exact zL
   go_wp2_with fail
   ((with_reducible refine rR.mono ?_);rintro e W2 ⟨As,ns,caps,Bs,ms,fu,rfl,dF,b_⟩)
   unfold d_;have av:=aA HB2.out b_;have aG:=dF;have HB3:=ah av;clear av;have wZ:=ah aG;clear aG;clear b_;clear dF rR;have zf:Calls Tryz.prog 21 #[.int .i64 (k:Int),.agg #[.int .i64 S.id,.int .i64 S.epoch,.bool S.frozen,.slice As ns caps,.slice Bs ms fu]] W2 (fun e w'=>e= .returned (.tuple #[.string (bs eb),.int .i64 0])∧Below W2.heap.size W2 w'):=UD kE HE.out hv gu.out wZ.out;go_wp2_with fail
   ((with_reducible refine zf.mono ?_);rintro e V2 ⟨rfl,b_⟩)
   have av:=aA HB3.out b_;have aG:=wZ.out.below b_;have cB:=ah av;clear av;have ET:=ah aG;clear aG;clear b_;clear zf;generalize bs eb=S0 at*;clear zL HE;have hq:=K6 qh ((S0.size:Int)+1) (by omega) (by omega) HAT.out;have kq:=uz qh ((S0.size:Int)+1) (by omega);generalize f_ qh ((S0.size:Int)+1)=p at hq kq;have hpS:p≤S0.size:=by omega
   obtain⟨q,hqd⟩:∃q,min (p+more.size) S0.size=q:=⟨_,rfl⟩;have hqS:q≤S0.size:=by omega
   obtain⟨T1,hT1⟩:∃T,S0.extract 0 p=T:=⟨_,rfl⟩;obtain⟨T2,CV⟩:∃T,S0.extract q S0.size=T:=⟨_,rfl⟩;obtain⟨T3,CW⟩:∃T,S0.extract p S0.size=T:=⟨_,rfl⟩;have z1_:T1.size=p:=by rw[←hT1,ByteArray.size_extract];omega
   have z2_:T2.size=S0.size-q:=by rw[←CV,ByteArray.size_extract];omega
   have z3_:T3.size=S0.size-p:=by rw[←CW,ByteArray.size_extract];omega
   obtain⟨H_,hU1⟩:∃T,T1++more=T:=⟨_,rfl⟩;obtain⟨X2,hX2⟩:∃T,H_++T2=T:=⟨_,rfl⟩;obtain⟨X3,xL⟩:∃T,H_++T3=T:=⟨_,rfl⟩;have zU:H_.size=T1.size+more.size:=by rw[←hU1,ByteArray.size_append]
   have zX2:X2.size=H_.size+T2.size:=by rw[←hX2,ByteArray.size_append]
   have zX3:X3.size=H_.size+T3.size:=by rw[←xL,ByteArray.size_append]
   have PE:Hid (∀m:ByteArray,m=s∨m=X2∨m=X3→m.size≤N):=by
    have:=HS.out;have:=HMO.out;rintro m (rfl|rfl|rfl)<;>omega
   have s1:=fun W=>ahN hT1 hpS W;have s2:=fun W=>NP CV hqS W;have s3:=fun W=>NP CW hpS W;have d1:∀W:World,(Op.stringOp .add T1 more).run Tryz.prog W= .ok (.string H_) W:=fun W=>by rw[←hU1];exact V_ (by omega) W
   have d2:∀W:World,(Op.stringOp .add H_ T2).run Tryz.prog W= .ok (.string X2) W:=fun W=>by rw[←hX2];exact V_ (by omega) W
   have d3:∀W:World,(Op.stringOp .add H_ T3).run Tryz.prog W= .ok (.string X3) W:=fun W=>by rw[←xL];exact V_ (by omega) W
   have m1:(if(S0.size:Int)<(p:Int)+(more.size:Int)then(S0.size:Int)else(p:Int)+(more.size:Int))=(q:Int):=by split<;>omega
   have m2:min ((p:Int)+(more.size:Int)) (S0.size:Int)=(q:Int):=by omega
   have p0:(0:Int)≤(p:Int):=by omega
   have p1:(p:Int)≤(S0.size:Int):=by omega
   have q0:(0:Int)≤(q:Int):=by omega
   have q1:(q:Int)≤(S0.size:Int):=by omega
   have n1:((p:Int)+(more.size:Int))≤140737490488365:=by omega
   have n2_:IntKind.i64.wrap ((p:Int)+(more.size:Int))=(p:Int)+(more.size:Int):=IntWalk.i64_in _ (by omega);have n3:(S0.size:Int)≤2000000:=by omega
   clear hqd z1_ z2_ z3_ zU zX2 zX3 hU1 hX2 xL kq hpS hqS zS;go_wp2_with fail
   ((with_reducible refine(hq _).mono ?_);rintro e U1 ⟨rfl,rfl⟩)
   clear hq;go_upto_region 7 with fail;refine wp_region_noPanic ?_;refine wp_region_held_drew (S:=fun W=>Below V2.heap.size V2 W) (by kernel_rfl) ((Below.refl _ _).drew) (fun hHeld=>?_);refine ay 0 ?_;refine ay 1 ?_;refine ay 2 ?_;refine ay 3 ?_;refine ay 4 ?_;refine ay 5 ?_;refine ay 6 ?_;refine ay 7 ?_;refine ay 8 ?_;refine ay 9 ?_;refine ay 10 ?_;refine ay 11 ?_;refine ay 12 ?_;refine ay 13 ?_;refine ay 14 ?_;refine ay 15 ?_;refine ay 16 ?_;refine ay 17 ?_;refine ay 18 ?_;refine ay 19 ?_;refine ay 20 ?_;refine ay 21 ?_;refine ay 22 ?_;refine ay 23 ?_;refine ay 24 ?_;refine ay 27 ?_;refine bH 25 fun K hK=>?_;go_simp;have hts:aj (V2.alloc (.cells #[.string s,.string X2,.string X3] 9)).drew V2.heap.size (.cells #[.string s,.string X2,.string X3] 9 (0,0)):=aj.new V2 (.cells #[.string s,.string X2,.string X3] 9);refine hK.out _ _ (hHeld.alloc hHeld.size _) fun hHeld=>?_;clear hK K;refine ay 26 ?_;refine wpAnyH_done (by kernel_rfl) ?_ _;refine NoPanic.normal ?_;obtain⟨V4,Iy⟩:=aQ ((V2.alloc (.cells #[.string s,.string X2,.string X3] 9)).drew);rw[Iy]at hts hHeld ⊢;clear Iy;generalize V2.heap.size=g at hts ⊢;have hb4:=aA cB.out hHeld;clear hHeld s1 s2 s3 d1 d2 d3 m1 m2 p0 p1 q0 q1 n1 n2_ n3;have cB:=ah hb4;clear hb4;have YH:=ah hts;clear hts;go_wp2_with fail;go_loopw [68] (fun i wy=>∃(j:Nat) (wq:World),wq=wy∧j≤3∧i= .int .i64 j∧Below V4.heap.size V4 wq) (fun i _=>3-(intOf i).toNat)
   case atStart=>exact⟨0,_,rfl,by omega,rfl,Below.refl _ _⟩
   case round=>
    obtain⟨j,wp,rfl,hj2,rfl,hbp⟩:=hrel
    by_cases hj:j<3
    ·obtain⟨x,hx,e0⟩:=auj (aj.below YH.out hbp) hj;have ZX:=ah (PE.out x hx);clear hx;have hj0:(0:Int)≤(j:Int):=by omega
     have hj1:(j:Int)<(3:Int):=by omega
     have av:=hbp;have eH:=ah av;clear av;clear hbp;rcases anY hv x.data.toList with hD|⟨y,hD,hE⟩
     ·have HD:=ah hD;clear hD;have nT:=aeR kX HD.out hv ZX.out wp;go_wp2_with fail
      ((with_reducible refine nT.mono ?_);rintro e Y1 ⟨Ay,ny,qj,By,my,qz,rfl,dF,b_⟩)
      clear nT e0;have hny:ny=0:=dF.2.2.1.1;subst hny;unfold d_;have e00:nV.id=0:=rfl;have e01:nV.epoch=0:=rfl;have e02:nV.frozen=false:=rfl;rw[show aS nV (.slice Ay 0 qj) (.slice By my qz)= #[.int .i64 0,.int .i64 0,.bool false,.slice Ay 0 qj,.slice By my qz]from rfl];have av:=aA eH.out b_;have gM:=ah av;clear av;clear b_;clear dF;go_upto_region 11 with fail;have av:=gM.out.alloc gM.out.size (.cells #[.int .i64 0,.int .i64 0,.bool false,.slice Ay 0 qj,.slice By my qz] 26);have aB:=aj.new Y1 (.cells #[.int .i64 0,.int .i64 0,.bool false,.slice Ay 0 qj,.slice By my qz] 26);obtain⟨Y2,aN⟩:=aQ (Y1.alloc (.cells #[.int .i64 0,.int .i64 0,.bool false,.slice Ay 0 qj,.slice By my qz] 26));rw[aN]at av aB ⊢;clear aN;have lM:=ah av;clear av;have nN:=ah aB;clear aB;obtain⟨s0,s1,s2,s3,s4⟩:=aZ nN.out;go_wp2_with fail;go_roundw
      case rel=>exact⟨j+1,_,rfl,by omega,by go_num,lM.out⟩
      case measure=>simp[intOf];omega
     ·have HD:=ah hD;clear hD;have HE2:=ah hE;clear hE;have HRY:=ah (Il HE2.out).1;have hxb:bs x.data.toList=x:=(MG x).symm;have nT:=aeR kX HD.out hv ZX.out wp;go_wp2_with fail
      ((with_reducible refine nT.mono ?_);rintro e Y1 ⟨Ay,ny,qj,By,my,qz,rfl,dF,b_⟩)
      clear nT e0;unfold d_;have av:=aA eH.out b_;have jd:=dF;have gM:=ah av;clear av;have XQ:=ah jd;clear jd;clear b_;clear dF;go_upto_region 11 with fail;have av:=gM.out.alloc gM.out.size (.cells #[.int .i64 y.id,.int .i64 y.epoch,.bool y.frozen,.slice Ay ny qj,.slice By my qz] 26);have jd:=XQ.out.below (ak _ (.cells #[.int .i64 y.id,.int .i64 y.epoch,.bool y.frozen,.slice Ay ny qj,.slice By my qz] 26));have aB:=aj.new Y1 (.cells #[.int .i64 y.id,.int .i64 y.epoch,.bool y.frozen,.slice Ay ny qj,.slice By my qz] 26);obtain⟨Y2,aN⟩:=aQ (Y1.alloc (.cells #[.int .i64 y.id,.int .i64 y.epoch,.bool y.frozen,.slice Ay ny qj,.slice By my qz] 26));rw[aN]at av jd aB ⊢;clear aN;have lM:=ah av;clear av;have SY:=ah jd;clear jd;have nN:=ah aB;clear aB;obtain⟨s0,s1,s2,s3,s4⟩:=aZ nN.out;have zf:Calls Tryz.prog 21 #[.int .i64 (k:Int),.agg #[.int .i64 y.id,.int .i64 y.epoch,.bool y.frozen,.slice Ay ny qj,.slice By my qz]] Y2 (fun e w'=>e= .returned (.tuple #[.string x,.int .i64 0])∧Below Y2.heap.size Y2 w'):=by have q:=UD kE HE2.out hv HRY.out SY.out;rw[hxb]at q;exact q
      have xx:(x.toList != x.toList)=false:=by simp
      go_wp2_with fail
      ((with_reducible refine zf.mono ?_);rintro e Y3 ⟨rfl,b_⟩)
      clear s0 s1 s2 s3 s4;have av:=aA lM.out b_;have jd:=SY.out.below b_;have aB:=nN.out.below b_;have lN:=ah av;clear av;have S9:=ah jd;clear jd;have uQ:=ah aB;clear aB;clear b_;clear zf;obtain⟨s0,s1,s2,s3,s4⟩:=aZ uQ.out;have q_r:Calls Tryz.prog 13 #[.agg #[.int .i64 y.id,.int .i64 y.epoch,.bool y.frozen,.slice Ay ny qj,.slice By my qz]] Y3 (fun e w'=>e= .returned (.bool true)∧Below Y3.heap.size Y3 w'):=ahs kR HRY.out S9.out;go_wp2_with fail
      ((with_reducible refine q_r.mono ?_);rintro e Y4 ⟨rfl,b_⟩)
      clear s0 s1 s2 s3 s4;have av:=aA lN.out b_;have jd:=S9.out.below b_;have aB:=uQ.out.below b_;have r9:=ah av;clear av;have ajr:=ah jd;clear jd;have uR:=ah aB;clear aB;clear b_;clear q_r;go_wp2_with fail;go_roundw
      case rel=>exact⟨j+1,_,rfl,by omega,by go_num,r9.out⟩
      case measure=>simp[intOf];omega
    ·have iw:j=3:=by omega
     subst iw;go_wp2_with fail;go_roundw
     case rel=>exact⟨k+1,_,rfl,by omega,by omega,by go_num,aA cB.out hbp⟩
     case measure=>simp[intOf];omega
  ·have hk:k=3:=by omega
   subst hk;go_wp2_with fail;go_ret;exact⟨rfl,aA HB1.out hby⟩
end Go.Proofs.YtodaapcohdpenaaGreat
