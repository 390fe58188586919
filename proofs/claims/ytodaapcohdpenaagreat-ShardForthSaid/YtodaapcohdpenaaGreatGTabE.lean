-- eB
import Derived.Test.YtodaapcohdpenaaGreatGTabD
import Derived.Test.YtodaapcohdpenaaGreatGSq
import Derived.Test.YtodaapcohdpenaaGreatGPick
namespace Go.Proofs.YtodaapcohdpenaaGreat
open Go.RowKit
set_option linter.unusedSimpArgs false
set_option linter.unusedVariables false
set_option maxHeartbeats 8000000
set_option maxRecDepth 100000
theorem RowK.ae0 {w:World} {base:Nat} {v:Value} {l:List ByteArray} (h:RowK w base v l):RowK w.drew base v l:=h
theorem Lc {w:World} {a b:Nat} {v:Value} {l:List ByteArray} (h:b≤a) (hr:RowK w a v l):RowK w b v l:=by
 refine⟨hr.1,?_⟩;rcases hr.2 with h2|⟨g,cap,cur,h1,h2,h3⟩
 ·exact .inl h2
 ·exact .inr ⟨g,cap,cur,h1,Nat.le_trans h h2,h3⟩
theorem VP {W:World} {base g j:Nat} {v:Value} {l:List ByteArray} {u:Value} (h:RowK W base v l) (hne:some g≠v.ownBlock):RowK (W.setCell ⟨g,j,none⟩ u) base v l:=
 World.ownsRow.kept h (rG W g j u) (.inr fun e=>hne e.symm)
theorem uD {W:World} {base g:Nat} {v:Value} {l:List ByteArray} (h:RowK W base v l) (hne:some g≠v.ownBlock) (x y z u:Value):
  RowK (((((W).setCell ⟨g,0,none⟩ x).setCell ⟨g,1,none⟩ y).setCell ⟨g,2,none⟩ z).setCell ⟨g,3,none⟩ u) base v l:=VP (VP (VP (VP h hne) hne) hne) hne
def xX (t:List au) (o:aX) (k:Nat):List ByteArray:=((t.take k).filter fun r=>pO o r.key).map (·.key)
theorem as3 {t:List au} {o:aX} {k:Nat} (h:k<t.length):xX t o (k+1)=xX t o k++(if pO o (atR t k).key then[(atR t k).key]else[]):=by
 unfold xX;rw[NY h,List.filter_append,List.map_append];congr 1
 cases e:pO o (atR t k).key<;>simp[e]
theorem as2 {t:List au} {o:aX} {k:Nat} (h:t.length≤k∨5≤(xX t o k).length) (h5:(xX t o k).length≤5):xX t o k=jh t o:=by
 unfold jh;unfold xX at h h5 ⊢;rw[List.length_map]at h h5;rcases h with h|h
 ·rw[List.take_of_length_le h]at h5 ⊢;rw[List.take_of_length_le h5]
 ·congr 1;have e:t=t.take k++t.drop k:=(List.take_append_drop k t).symm;have e2:(t.filter fun r=>pO o r.key)=((t.take k).filter fun r=>pO o r.key)++((t.drop k).filter fun r=>pO o r.key):=by rw[←List.filter_append,←e]
  rw[e2,List.take_append_of_le_length h,List.take_of_length_le h5]
theorem ahj (t:List au) (o:aX) (A:Option Addr) (n cap:Nat) (w:World) (h:gW w A n t) (Qw:n*88≤140737488351232):
  Calls Tryz.prog 67 #[.slice A n cap,gU o] w fun e w'=>∃K,e= .returned (bX ⟨0,0,ByteArray.empty,jh t o⟩ K)∧RowK w' w.heap.size K (jh t o)∧Below w.heap.size w w':=by
 have HN:Hid (n=t.length):=h.1;have HT:=ah h;clear h;have hbw:Below w.heap.size w (((w.alloc (.cells (aO o) 29)).alloc (.cells z4 43)).alloc (.cells z4 43)):=((ak _ _).alloc (by simp) _).alloc (by simp;omega) _;have pK:fH (((w.alloc (.cells (aO o) 29)).alloc (.cells z4 43)).alloc (.cells z4 43)) w.heap.size o:=((fH.new w o).below (ak _ _)).below (ak _ _);have ha1:aj (((w.alloc (.cells (aO o) 29)).alloc (.cells z4 43)).alloc (.cells z4 43)) (w.heap.size+1) (.cells z4 43 (0,0)):=by have h:=aj.below (aj.new (w.alloc (.cells (aO o) 29)) (.cells z4 43)) (ak _ (.cells z4 43));rw[World.size_alloc]at h;exact h
 have hz1:aj (((w.alloc (.cells (aO o) 29)).alloc (.cells z4 43)).alloc (.cells z4 43)) (w.heap.size+2) (.cells z4 43 (0,0)):=by have h:=aj.new ((w.alloc (.cells (aO o) 29)).alloc (.cells z4 43)) (.cells z4 43);rw[World.size_alloc,World.size_alloc]at h;exact h
 obtain⟨W0,hW0⟩:=aQ (((w.alloc (.cells (aO o) 29)).alloc (.cells z4 43)).alloc (.cells z4 43));rw[hW0]at hbw pK ha1 hz1;have bU:=ah hbw;clear hbw;unfold gU;go_enter Tryz.func67,Tryz.ntmps67;go_wp2_with fail;clear hW0;obtain⟨B,hB⟩:∃B,w.heap.size=B:=⟨_,rfl⟩;have dO:=ah hB;have e2:B+1+1=B+2:=rfl;rw[hB]at pK ha1 hz1 ⊢;rw[e2];clear hB e2;go_loopw [6] (fun i wy=>∃(k:Nat) (wr:World) (KV:Value),wr=wy∧k≤n∧i= .int .i64 k∧fH wr B o∧aj wr (B+1) (.cells z4 43 (0,0))∧aj wr (B+2) (.cells (bR 0 KV) 43 (0,0))∧RowK wr (B+3) KV (xX t o k)∧(xX t o k).length≤5∧Below w.heap.size w wr) (fun i _=>n-(intOf i).toNat)
 case atStart=>exact⟨0,_,_,rfl,by omega,rfl,pK,ha1,hz1,nI _ _,by simp[xX],bU.out⟩
 case round=>
  clear pK ha1 hz1 bU;obtain⟨k,wr,KV,rfl,hk,rfl,pK,ha1,hz1,hro,hlk,hb⟩:=hrel;obtain⟨Ak,ck,hkv⟩:=xV hro;subst hkv;have Hl:=ah hro;clear hro;have lq:=ah hlk;clear hlk;have HB:=ah hb;clear hb;have oK:=ah pK;clear pK;have HA1:=ah ha1;clear ha1;have HZ:=ah hz1;clear hz1;obtain⟨kk,hkk⟩:∃kk,xX t o k=kk:=⟨_,rfl⟩;have vS:Hid (t.length≤k∨5≤(xX t o k).length→xX t o k=jh t o):=fun h=>as2 h lq.out;rw[hkk]at Hl lq vS HZ;have HKK:=ah hkk;clear hkk;have z3:=aj.cell HZ.out 3;simp only[aM]at z3;have gk:kk.length≤5:=lq.out
  by_cases hlt:k<n
  ·have hki:(k:Int)<(n:Int):=by omega
   by_cases h5:kk.length<5
   ·have h5i:(kk.length:Int)<5:=by omega
    have HK:Hid (k<t.length):=by have:=HN.out;show k<t.length;omega
    obtain⟨b,off,hA,hbb⟩:=HT.out.block (by omega);subst hA;obtain⟨E,m,c,hx,hmc,hfs⟩:=HT.out.at HK.out (Below.refl _ w);have uL:=ah hx;clear hx hfs;have hg1:decide ((k:Int)<0)=false:=decide_eq_false (by omega);have hg2:decide ((n:Int)≤(k:Int))=false:=decide_eq_false (by omega);have QS:decide (n≤k)=false:=decide_eq_false (by omega);have hk0:(0:Int)≤(k:Int):=by omega
    have JQ:=ah (as3 (o:=o) HK.out);rw[HKK.out]at JQ;have SH:Hid (pO o (atR t k).key=(!fM (atR t k).key o.key&&(decide (o.upto.size=0)||fM (atR t k).key o.upto))):=rfl;generalize atR t k=r at*;have eT:Hid (∀V,Below wr.heap.size wr V→Below w.heap.size w V):=fun V hv=>aA HB.out hv
    cases hin:pO o r.key with
    |false=>
     rw[hin]at JQ SH;have oU:Hid (xX t o (k+1)=kk):=by show _=_;rw[JQ.out];simp
     clear hin JQ;have hin2:(!Go.Op.bytesLess r.key.toList o.key.toList)=false∨(!Go.Op.bytesLess r.key.toList o.key.toList)=true∧(o.upto.toList==[])=false∧Go.Op.bytesLess r.key.toList o.upto.toList=false:=by
      have h:=SH.out
      cases h1:Go.Op.bytesLess r.key.toList o.key.toList
      ·right;have h1':fM r.key o.key=false:=h1;rw[h1']at h;have h2:(decide (o.upto.size=0)||fM r.key o.upto)=false:=by simpa using h.symm
       rw[Bool.or_eq_false_iff]at h2;refine⟨rfl,?_,h2.2⟩;rw[beq_eq_false_iff_ne];intro e;exact(of_decide_eq_false h2.1) ((pX _).1 e)
      ·left;rfl
     have H2:=ah hin2;clear hin2;obtain⟨q0,q1,q2,q3,q4,q5,q6⟩:=oK.out.cells;obtain⟨x0,x1,x2,x3,x4,x5⟩:=kH.below (show kH w b (off+k*6) r (.slice E m c)from uL.out) HB.out;rcases H2.out with e1|⟨e1,e2,e3⟩
     all_goals
      go_wp2_with fail;go_quiet (fail);go_wp2_with fail;go_roundw
      case rel=>exact⟨k+1,_,_,rfl,by omega,by go_num,(show fH wr B o from oK.out).below (jL (Below.refl _ _) _),aj.below HA1.out (jL (Below.refl _ _) _),aj.below HZ.out (jL (Below.refl _ _) _),by rw[oU.out];exact Hl.out.below (jL (Below.refl _ _) _),by rw[oU.out];exact lq.out,jL HB.out _⟩
      case measure=>simp[intOf];omega
    |true=>
     rw[hin]at JQ SH;have oU:Hid (xX t o (k+1)=kk++[r.key]):=by show _=_;rw[JQ.out];simp
     clear hin JQ;have hin1:(!Go.Op.bytesLess r.key.toList o.key.toList)=true∧((o.upto.toList==[])=true∨(o.upto.toList==[])=false∧Go.Op.bytesLess r.key.toList o.upto.toList=true):=by
      have h:=SH.out.symm;rw[Bool.and_eq_true,Bool.or_eq_true]at h;refine⟨h.1,?_⟩
      cases h3:o.upto.toList==[]
      ·right;refine⟨rfl,?_⟩;rcases h.2 with h4|h4
       ·have:=(pX _).2 (of_decide_eq_true h4);rw[this]at h3;cases h3
       ·exact h4
      ·left;rfl
     have H2:=ah hin1;clear hin1;obtain⟨q0,q1,q2,q3,q4,q5,q6⟩:=oK.out.cells;obtain⟨x0,x1,x2,x3,x4,x5⟩:=kH.below (show kH w b (off+k*6) r (.slice E m c)from uL.out) HB.out;have e1:=H2.out.1;rcases H2.out.2 with e2|⟨e2,e3⟩
     all_goals
      go_wp2_with fail;go_quiet (fail);go_upto_region 6 with fail;have hbv:Below wr.heap.size wr (wr.drewN nq):=jL (Below.refl _ _) _;have Hg:=ah (Hl.out.below hbv);have YX:=ah (aj.below HZ.out hbv);have Xb:=ah (aj.below HA1.out hbv);have HOv:Hid (fH (wr.drewN nq) B o):=fH.below oK.out hbv;have Xh:=ah (aA HB.out hbv);obtain⟨V,hV⟩:∃V,wr.drewN nq=V:=⟨_,rfl⟩;have acZ:Hid (fH V B o):=by rw[←hV];exact HOv.out
      clear HOv;rw[hV]at Hg YX Xb Xh ⊢;clear hV hbv q0 q1 q2 q3 q4 q5 q6 x0 x1 x2 x3 x4 x5 z3 HZ HA1 oK HB Hl;have HZ:=YX;have HA1:=Xb;have oK:=acZ;have HB:=Xh;clear YX Xb acZ Xh e1 e2;have z3:=aj.cell HZ.out 3;simp only[aM]at z3;refine wp_region_noPanic ?_;refine Du (S:=(fun W=>Below w.heap.size w W∧W.cell? ⟨B+2,3,none⟩=some (.slice Ak kk.length ck))) [10] (by kernel_rfl) (⟨HB.out.drew,z3⟩) (fun hHeld=>?_);refine dA 0 ?_;refine dA 1 ?_ (hy:=fun w hSw=>by((try dsimp only at hSw);have y3:=hSw.2;go_simp;(try with_reducible rfl)));refine dA 2 ?_;refine dA 3 ?_;refine dA 4 ?_;refine dA 5 ?_;refine dA 6 ?_ (hy:=fun w hSw=>by((try dsimp only at hSw);obtain⟨x0,x1,x2,x3,x4,x5⟩:=kH.below uL.out hSw.1;go_simp;(try with_reducible rfl)));have CZ:Below V.heap.size V (V.alloc (.cells #[.string r.key] 9)):=ak _ _;refine qH 7 fun K hK=>?_;go_simp;refine hK.out _ _ (⟨hHeld.1.alloc HB.out.size _,(CZ.cell (p:=⟨B+2,3,none⟩) (lt_of_cell hHeld.2)).trans hHeld.2⟩) fun hHeld=>?_;clear hK K;have QM:(V.alloc (.cells #[.string r.key] 9)).drew.cell? ⟨V.heap.size,0,none⟩=some (.string r.key):=cell_one_new V _ _;have Yq:=ah ((Hg.out.below CZ).ae0);have Ec:=ah (aj.drew (aj.below HZ.out CZ));have Oh:=ah (aj.drew (aj.below HA1.out CZ));have vV:=ah (fH.below oK.out CZ);have HS7:Hid (B+2<(V.alloc (.cells #[.string r.key] 9)).drew.heap.size):=Nat.lt_of_lt_of_le (aj.lt HZ.out) (by show V.heap.size≤(V.alloc (.cells #[.string r.key] 9)).heap.size;simp);obtain⟨V7,hV7⟩:=aQ ((V.alloc (.cells #[.string r.key] 9)).drew);rw[hV7]at hHeld QM Yq Ec Oh HS7 ⊢;have vV:Hid (fH V7 B o):=by rw[←hV7];exact vV.out
      clear hV7 CZ;refine wQ (rs:=[8]) (by kernel_rfl) (by simp) ?_;refine jA.cons rfl (fun K hK=>?_) jA.nil;refine ahS rfl _ _ rfl (B+3) _ (kk) rfl Yq.out V.heap.size 1 r.key rfl QM (by have:=lq.out;omega) (by have:=HS7.out;omega) ?_;intro A8 jW V8 mF mE;have wJ:=Yq.out.lt;have pJ:∀j,j<B+3→some j≠(Value.slice Ak kk.length ck).ownBlock:=fun j hj e=>by have:=(wJ j e.symm).1;omega
      have hb8:Below w.heap.size w V8:=hHeld.1.grown mE hHeld.1.size (fun g hg=>by have:=(wJ g hg).1;have:=dO.out;omega);have YV:=ah (aj.kept Ec.out mE (pJ (B+2) (by omega)));have HA8:=ah (aj.kept Oh.out mE (pJ (B+1) (by omega)));have GJ:Hid (fH V8 B o):=aj.kept (o:=_) vV.out mE (pJ B (by omega));have y8:=aj.cell YV.out 3;simp only[aM]at y8;have f8:=aj.frozen YV.out 3;have HR8:=ah mF;refine hK.out _ _ ⟨hb8,y8⟩ (fun QE=>?_);clear hK K hHeld mE hb8 mF wJ pJ;have hHeld:=QE;clear QE;refine dA 9 ?_;have HS:=ah hHeld.1;refine wQ (rs:=[10]) (by kernel_rfl) (by simp) ?_;refine jA.last rfl (by kernel_rfl) (fun K hK=>?_) jA.nil;rw[if_pos (by rfl)];go_simp;refine hK.out _ _ (trivial) fun hHeld=>?_;clear hK K;refine Dt (by kernel_rfl) ?_ _;refine NoPanic.normal ?_;have hz9:=aj.set YV.out 3 (.slice A8 (kk.length+1) jW) (bR 0 (.slice A8 (kk.length+1) jW)) rfl;have ha9:=aj.far HA8.out (show B+1≠B+2 by omega) 3 (.slice A8 (kk.length+1) jW);have ho9:fH (V8.setCell ⟨B+2,3,none⟩ (.slice A8 (kk.length+1) jW)) B o:=aj.far (o:=_) GJ.out (show B≠B+2 by omega) 3 (.slice A8 (kk.length+1) jW);have IG:=HS.out.setCell (p:=⟨B+2,3,none⟩) (show w.heap.size≤B+2 by have:=dO.out;omega) (.slice A8 (kk.length+1) jW);have hr9:=World.ownsRow.kept HR8.out (rG V8 (B+2) 3 (.slice A8 (kk.length+1) jW)) (.inr fun e=>by have:=(HR8.out.lt _ e).1;omega);have J_:=ah hz9;clear hz9;have JG:=ah ha9;clear ha9;have zC:=ah ho9;clear ho9;have r9:=ah IG;clear IG;have Hf:=ah hr9;clear hr9;clear hHeld y8 f8;go_wp2_with fail;go_roundw
      case rel=>exact⟨k+1,_,.slice A8 (kk.length+1) jW,rfl,by omega,by go_num,zC.out,JG.out,J_.out,by rw[oU.out];exact Hf.out,by rw[oU.out];simp;omega,r9.out⟩
      case measure=>simp[intOf];omega
   ·have HE:Hid (kk=jh t o):=vS.out (.inr (by omega));have h5i:¬(kk.length:Int)<5:=by omega
    clear hlt h5;have y0:=aj.cell HZ.out 0;have y1:=aj.cell HZ.out 1;have y2:=aj.cell HZ.out 2;simp only[aM]at y0 y1 y2;have y3:=z3;clear z3;obtain⟨z0,z1,z2,z3⟩:=aY HA1.out;obtain⟨f0,f1,f2,f3⟩:=dX HA1.out;have hfin:=jI HA1.out (.int .i64 0) (.int .i64 0) (.string ⟨#[]⟩) (.slice Ak kk.length ck);obtain⟨e0,e1,e2,e3⟩:=aY hfin;have hnk:∀j,j<B+3→some j≠(Value.slice Ak kk.length ck).ownBlock:=fun j hj e=>by have:=(Hl.out.lt j e.symm).1;omega
    have iB:=ah (uD Hl.out (hnk (B+1) (by omega)) (.int .i64 0) (.int .i64 0) (.string ⟨#[]⟩) (.slice Ak kk.length ck));have aU:=ah (jG (g:=B+1) HB.out (by have:=dO.out;omega) (.int .i64 0) (.int .i64 0) (.string ⟨#[]⟩) (.slice Ak kk.length ck));clear hfin hnk;go_wp2_with fail;refine bodyPost_ret (v:=.agg (bR 0 (.slice Ak kk.length ck))) (by simp[results,Tryz.results67,go_sem,e0,e1,e2,e3]) rfl ⟨.slice Ak kk.length ck,rfl,by rw[←HE.out];exact Lc (show w.heap.size≤B+3 by have:=dO.out;omega) iB.out,aU.out⟩
  ·have HE:Hid (kk=jh t o):=vS.out (.inl (by have:=HN.out;omega));have hki:¬(k:Int)<(n:Int):=by omega
   clear hlt;have y0:=aj.cell HZ.out 0;have y1:=aj.cell HZ.out 1;have y2:=aj.cell HZ.out 2;simp only[aM]at y0 y1 y2;have y3:=z3;clear z3;obtain⟨z0,z1,z2,z3⟩:=aY HA1.out;obtain⟨f0,f1,f2,f3⟩:=dX HA1.out;have hfin:=jI HA1.out (.int .i64 0) (.int .i64 0) (.string ⟨#[]⟩) (.slice Ak kk.length ck);obtain⟨e0,e1,e2,e3⟩:=aY hfin;have hnk:∀j,j<B+3→some j≠(Value.slice Ak kk.length ck).ownBlock:=fun j hj e=>by have:=(Hl.out.lt j e.symm).1;omega
   have iB:=ah (uD Hl.out (hnk (B+1) (by omega)) (.int .i64 0) (.int .i64 0) (.string ⟨#[]⟩) (.slice Ak kk.length ck));have aU:=ah (jG (g:=B+1) HB.out (by have:=dO.out;omega) (.int .i64 0) (.int .i64 0) (.string ⟨#[]⟩) (.slice Ak kk.length ck));clear hfin hnk;go_wp2_with fail;refine bodyPost_ret (v:=.agg (bR 0 (.slice Ak kk.length ck))) (by simp[results,Tryz.results67,go_sem,e0,e1,e2,e3]) rfl ⟨.slice Ak kk.length ck,rfl,by rw[←HE.out];exact Lc (show w.heap.size≤B+3 by have:=dO.out;omega) iB.out,aU.out⟩
theorem Qn {t:List au} {o:aX} (h:¬(iO t∧dY 2 o=0)):bO t o=(t,gK 1):=by unfold bO;rw[if_pos h]
theorem ZV {t:List au} {o:aX} (h:iO t∧dY 2 o=0):bO t o=
  if o.kind=6 then(t,⟨0,0,ByteArray.empty,jh t o⟩)
  else if o.kind=2 then bM t (jS t o.key) o
  else if o.kind=4 then(if FZ t (jS t o.key)≠o.rev then(t,⟨71,FZ t (jS t o.key),ByteArray.empty,[]⟩)else bM t (jS t o.key) o)
  else match jS t o.key with
   |none=>(t,gK 70)
   |some i=>
    if o.kind=1 then(t,⟨0,(atR t i).rev,(atR t i).value,[]⟩)
    else if o.kind=3 then(t.eraseIdx i,⟨0,(atR t i).rev,ByteArray.empty,[]⟩)
    else if(atR t i).rev=bZ then(t,gK 50)
    else(t.set i (uy (atR t i) o),⟨0,(atR t i).rev+1,ByteArray.empty,[]⟩):=by
 unfold bO;rw[if_neg (fun e=>e h)];rfl
theorem ahl {r:au} (h:eP 2 r=true):0≤r.rev∧r.rev≤9007199254740992:=by
 have:=qV.1 h;exact this.2.2.2.1
theorem RQ (t:List au) (k:Option Nat) (o:aX):(bM t k o).2.keys=[]:=by
 unfold bM
 cases k<;>simp only<;>split<;>rfl
theorem bf.take {w:World} {base g n cap i:Nat} {l:List (au×Value)} (h:bf w base (.slice (some ⟨g,0,none⟩) n cap) l) (hi:i≤l.length):bf w base (.slice (some ⟨g,0,none⟩) i cap) (l.take i):=by
 have hl:(l.take i).length=i:=by rw[List.length_take];omega
 have hc:bV (l.take i)=(bV l).take (i*6):=by
  have e:bV l=bV (l.take i)++bV (l.drop i):=by rw[←CJ,List.take_append_drop]
  rw[e,List.take_left' (by rw[qy,hl])]
 unfold bf;refine⟨by rw[qy],?_⟩;rcases h.2 with⟨h1,_⟩|⟨g2,cap2,cur,h1,hb,hh,hnc,hcm,hcs,htk⟩
 ·simp at h1
 ·simp only[Value.slice.injEq,Option.some.injEq,Addr.mk.injEq,and_true]at h1;obtain⟨hgg,hn,hcc⟩:=h1;subst hgg hcc;refine .inr ⟨g,cap,cur,by rw[hl],hb,hh,by rw[hl];omega,hcm,hcs,?_⟩;rw[hl,hc,←htk,List.take_take,Nat.min_eq_left (Nat.mul_le_mul_right 6 hi)]
theorem arA {w:World} {base g n cap i:Nat} {l:List (au×Value)} {A:Option Addr} (h:bf w base (.slice (some ⟨g,0,none⟩) n cap) l) (hn:l.length=n) (hi:i<n) (hA:i+1<n→A=some ⟨g,(i+1)*6,none⟩):uV w A (n-(i+1)) (l.drop (i+1)):=by
 obtain⟨A0,cap0,hv0,hc0,h1,h2,h3⟩:=h.parts;simp only[Value.slice.injEq]at hv0;refine⟨by rw[List.length_drop,hn],by omega,fun hp=>?_⟩;obtain⟨b,off,e,hlt,hat⟩:=h3 (by omega);rw[←hv0.1]at e;simp only[Option.some.injEq,Addr.mk.injEq,and_true]at e;obtain⟨rfl,rfl⟩:=e;refine⟨g,(i+1)*6,hA (by omega),hlt,fun j hj=>?_⟩;rw[List.length_drop]at hj;have:=hat (i+1+j) (by omega);rw[show aK (l.drop (i+1)) j=aK l (i+1+j) by unfold aK;rw[List.getD_eq_getElem?_getD,List.getD_eq_getElem?_getD,List.getElem?_drop],show(i+1)*6+j*6=0+(i+1+j)*6 by omega];exact this
theorem afb {w:World} {l:List (au×Value)} (i:Nat) (h:fK w l):fK w (l.take i++l.drop (i+1)):=fun p hp=>by
 rcases List.mem_append.1 hp with h1|h1
 ·exact h p (List.mem_of_mem_take h1)
 ·exact h p (List.mem_of_mem_drop h1)
theorem atY {w:World} {ops:Array Oper} {o:Oper} {a:Act} {K:Act→World→Prop} {Q:Exit→Act→World→Prop} {E:Prop} (hgd:o.guard=none) (s x:Operand)
  (ho:o.op= .call { callee:=.builtin .append,args:=#[s,x],argTypes:=#[23,23] })
  (base:Nat) (v:Value) (l:List (au×Value)) (hs:a.eval s=v) (hown:bf w base v l)
  (A:Option Addr) (m c:Nat) (k:List (au×Value)) (hx:a.eval x= .slice A m c) (hf:uV w A m k) (hk1:wm k)
  (h63:(l.length+m)*88≤140737488355328) (hbase:base≤w.heap.size)
  (h:∀A2 cap2 w',bf w' base (.slice A2 (l.length+m) cap2) (l++k)→w.grownBy w' v.ownBlock→K (a.put o.dst (.slice A2 (l.length+m) cap2)) w'):
  if Region.wanted o (yielded ops a.tmps)=true then Oper.wp Tryz.prog o a w K Q else E:=by
 obtain⟨i0,hi,hz0,hz1,hz2⟩:=info_parts KS;have hw:Region.wanted o (yielded ops a.tmps)=true:=by simp[Region.wanted,hgd]
 rw[if_pos hw];obtain⟨hm,_,hat⟩:=hf;have form:∀{w:World} {v:Value} {n:Nat} {xs:List Value},w.ownsRow base 68 6 v n xs→∃A cap,v= .slice A n cap:=fun h=>by
  rcases h.2 with⟨hn,hv⟩|⟨g,cap,cur,hv,_⟩
  ·exact⟨none,0,by simp_all⟩
  ·exact⟨_,cap,hv⟩
 rcases Nat.eq_zero_or_pos m with rfl|hp
 ·have hg:k=[]:=List.eq_nil_of_length_eq_zero hm.symm;subst hg;have hrun:=VT (P:=Tryz.prog) (w:=w) base 23 o.type 68 i0 6 Tryz.underlying23 hi v l.length _ hown A c;obtain⟨A2,cap2,hv⟩:=form hown;unfold Oper.wp execOp;simp only[ho,resolve,invoke,builtin,Sem.run_bind,Sem.run_pure,Result.andThen_ok,List.map_toArray,List.map_cons,List.map_nil,hs,hx,hrun];rw[hv];refine h A2 cap2 w ?_ ⟨rfl,rfl,rfl,Nat.le_refl _,fun _ _ _=>rfl⟩;rw[List.append_nil,Nat.add_zero,←hv];exact hown
 ·obtain⟨b,off,rfl,hb,hat⟩:=hat hp;obtain⟨v',w',hr,h2,h3,h4,h5⟩:=run_append_own_at (P:=Tryz.prog) w base 23 o.type 68 i0 (.agg z6) 6 88 Tryz.underlying23 hi hz0 hz1 hz2 rfl (by decide) v l.length _ hown ⟨b,off,none⟩ m c (bV k) (by rw[qy,hm]) (abg hat) (Qi hk1) (by unfold maxLen;omega) h63 hbase;obtain⟨A2,cap2,rfl⟩:=form h2;unfold Oper.wp execOp;simp only[ho,resolve,invoke,builtin,Sem.run_bind,Sem.run_pure,Result.andThen_ok,List.map_toArray,List.map_cons,List.map_nil,hs,hx,hr];refine h _ _ w' ?_ h3;unfold bf;rw[CJ,List.length_append,←hm];exact h2
def ach (w:World) (t:List au) (o:aX) (e:Ending) (w':World):Prop:=
 ∃v l K,e= .returned (.tuple #[v,bX (bO t o).2 K])∧bf w' w.heap.size v l∧l.map Prod.fst=(bO t o).1∧fK w' l∧RowK w' w.heap.size K (bO t o).2.keys∧Below w.heap.size w w'
theorem ahb (t:List au) (o:aX) (A:Option Addr) (n cap:Nat) (w:World) (h:gW w A n t) (Qw:n*88≤140737488351232) (ho:Bo o):
  Calls Tryz.prog 27 #[.slice A n cap,gU o] w (ach w t o):=by
 have HN:Hid (n=t.length):=h.1;have hbw:Below w.heap.size w ((w.alloc (.cells (aO o) 29)).alloc (.cells z4 43)):=(ak _ _).alloc (by simp) _;have pK:fH ((w.alloc (.cells (aO o) 29)).alloc (.cells z4 43)) w.heap.size o:=(fH.new w o).below (ak _ _);have hzb:aj ((w.alloc (.cells (aO o) 29)).alloc (.cells z4 43)) (w.heap.size+1) (.cells z4 43 (0,0)):=by have h:=aj.new (w.alloc (.cells (aO o) 29)) (.cells z4 43);rw[World.size_alloc]at h;exact h
 have hs2:((w.alloc (.cells (aO o) 29)).alloc (.cells z4 43)).heap.size=w.heap.size+2:=by simp
 obtain⟨W0,hW0⟩:=aQ ((w.alloc (.cells (aO o) 29)).alloc (.cells z4 43));rw[hW0]at hbw pK hzb hs2;have dK:Hid (w.heap.size+1<W0.heap.size):=aj.lt hzb;have HS2:Hid (W0.heap.size=w.heap.size+2):=hs2;clear hs2;have aaQ:=h.below hbw;have qo:=asc t A n cap W0 aaQ (by omega);have HT:=ah aaQ;clear aaQ h;have HO:=ah ho;clear ho;have oK:=ah pK;clear pK;have gQ:=ah hzb;clear hzb;have bU:=ah hbw;clear hbw;unfold gU;go_enter Tryz.func27,Tryz.ntmps27;go_wp2_with fail
 ((with_reducible refine qo.mono ?_);rintro e W1 ⟨v1,l,rfl,hr1,hm1,hx1,b1⟩)
 clear qo hW0;have Bh:=ah hm1;clear hm1;have g_:=Bh;have ji:Hid (l.length=n):=by have:=congrArg List.length Bh.out;rw[List.length_map]at this;show _=_;have:=HN.out;omega
 obtain⟨A1,dP,hv1,hc1,aaG⟩:=hr1.parts;rw[ji.out]at hv1;subst hv1;have qr:=ahf t A n cap W1 (HT.out.below b1);have HR1:=ah hr1;clear hr1;have jl:=ah hx1;clear hx1;have HB1:=ah (aA bU.out b1);have HZ1:=ah (aj.below gQ.out b1);have eZ:=ah (fH.below oK.out b1);clear gQ oK bU aaG b1
 cases hrt:wN t with
 |false=>
  rw[hrt]at qr;have HE:Hid (bO t o=(t,gK 1)):=Qn (fun h=>by rw[Lb.2 h.1]at hrt;cases hrt);clear hrt;go_wp2_with fail
  ((with_reducible refine qr.mono ?_);rintro e W4 ⟨rfl,b4⟩)
  have HR4:=ah (HR1.out.below b4);have jV:=ah (jl.out.below b4);have cB:=ah (aA HB1.out b4);have kQ:=ah (aj.below HZ1.out b4);clear qr b4;have qf:=fun W=>Nv 1 1 rfl W;go_wp2_with fail
  ((with_reducible refine(qf _).mono ?_);rintro e W5 ⟨rfl,b5⟩)
  have cZ:=aj.below kQ.out b5;have iQ:=HR4.out.below b5;have hx5:=jV.out.below b5;have hb5:=aA cB.out b5;clear b5;obtain⟨z0,z1,z2,z3⟩:=aY cZ;obtain⟨f0,f1,f2,f3⟩:=dX cZ;have hne:=tH iQ cZ (by decide);have hfin:=jI cZ (.int .i64 1) (.int .i64 0) (.string ByteArray.empty) (.slice none 0 0);obtain⟨e0,e1,e2,e3⟩:=aY hfin;have iB:=ah (bf.base (b:=w.heap.size) (Nat.le_of_lt (by have:=dK.out;omega)) (qG iQ hne (.int .i64 1) (.int .i64 0) (.string ByteArray.empty) (.slice none 0 0)));have iH:=ah (qA hx5 cZ (by decide) (.int .i64 1) (.int .i64 0) (.string ByteArray.empty) (.slice none 0 0));have aU:=ah (jG (g:=(w.heap.size+1)) hb5 (by omega) (.int .i64 1) (.int .i64 0) (.string ByteArray.empty) (.slice none 0 0));have gV:=ah (uD (nI W5 w.heap.size) (g:=w.heap.size+1) (by simp[Value.ownBlock]) (.int .i64 1) (.int .i64 0) (.string ByteArray.empty) (.slice none 0 0));clear hfin hne;go_wp2_with fail;refine bodyPost_ret (v:=.tuple #[.slice A1 n dP,.agg #[(.int .i64 1),(.int .i64 0),(.string ByteArray.empty),(.slice none 0 0)]]) (by simp[results,Tryz.results27,go_sem,e0,e1,e2,e3]) rfl ⟨_,l,(.slice none 0 0),by rw[HE.out];rfl,iB.out,by rw[HE.out];exact g_.out,iH.out,by rw[HE.out];exact gV.out,aU.out⟩
 |true=>
  rw[hrt]at qr;have iC:=ah (Lb.1 hrt);clear hrt;go_wp2_with fail
  ((with_reducible refine qr.mono ?_);rintro e W2 ⟨rfl,b2⟩)
  have HR2:=ah (HR1.out.below b2);have iR:=ah (jl.out.below b2);have HB2:=ah (aA HB1.out b2);have HZ2:=ah (aj.below HZ1.out b2);have eX:=ah (fH.below eZ.out b2);obtain⟨c0,c1,c2,c3,c4,c5,c6⟩:=eX.out.cells;have qc:=ag_ 2 o W2;unfold gU at qc
  by_cases hc:dY 2 o=0
  rotate_left
  ·have HE:Hid (bO t o=(t,gK 1)):=Qn (fun h=>hc h.2);have ec:(((dY 2 o:Nat):Int) != 0)=true:=by simp;omega
   clear hc;go_wp2_with fail
   ((with_reducible refine qc.mono ?_);rintro e W4 ⟨rfl,b4⟩)
   have HR4:=ah (HR2.out.below b4);have jV:=ah (iR.out.below b4);have cB:=ah (aA HB2.out b4);have kQ:=ah (aj.below HZ2.out b4);clear qc b4 c0 c1 c2 c3 c4 c5 c6;have qf:=fun W=>Nv 1 1 rfl W;go_wp2_with fail
   ((with_reducible refine(qf _).mono ?_);rintro e W5 ⟨rfl,b5⟩)
   have cZ:=aj.below kQ.out b5;have iQ:=HR4.out.below b5;have hx5:=jV.out.below b5;have hb5:=aA cB.out b5;clear b5;obtain⟨z0,z1,z2,z3⟩:=aY cZ;obtain⟨f0,f1,f2,f3⟩:=dX cZ;have hne:=tH iQ cZ (by decide);have hfin:=jI cZ (.int .i64 1) (.int .i64 0) (.string ByteArray.empty) (.slice none 0 0);obtain⟨e0,e1,e2,e3⟩:=aY hfin;have iB:=ah (bf.base (b:=w.heap.size) (Nat.le_of_lt (by have:=dK.out;omega)) (qG iQ hne (.int .i64 1) (.int .i64 0) (.string ByteArray.empty) (.slice none 0 0)));have iH:=ah (qA hx5 cZ (by decide) (.int .i64 1) (.int .i64 0) (.string ByteArray.empty) (.slice none 0 0));have aU:=ah (jG (g:=(w.heap.size+1)) hb5 (by omega) (.int .i64 1) (.int .i64 0) (.string ByteArray.empty) (.slice none 0 0));have gV:=ah (uD (nI W5 w.heap.size) (g:=w.heap.size+1) (by simp[Value.ownBlock]) (.int .i64 1) (.int .i64 0) (.string ByteArray.empty) (.slice none 0 0));clear hfin hne;go_wp2_with fail;refine bodyPost_ret (v:=.tuple #[.slice A1 n dP,.agg #[(.int .i64 1),(.int .i64 0),(.string ByteArray.empty),(.slice none 0 0)]]) (by simp[results,Tryz.results27,go_sem,e0,e1,e2,e3]) rfl ⟨_,l,(.slice none 0 0),by rw[HE.out];rfl,iB.out,by rw[HE.out];exact g_.out,iH.out,by rw[HE.out];exact gV.out,aU.out⟩
  have HD:=ah (ZV ⟨iC.out,hc⟩);rw[hc]at qc;clear hc;go_wp2_with fail
  ((with_reducible refine qc.mono ?_);rintro e W3 ⟨rfl,b3⟩)
  have HR3:=ah (HR2.out.below b3);have jP:=ah (iR.out.below b3);have HB3:=ah (aA HB2.out b3);have HZ3:=ah (aj.below HZ2.out b3);have gH:=ah (fH.below eX.out b3);clear qc b3 c0 c1 c2 c3 c4 c5 c6;obtain⟨c0,c1,c2,c3,c4,c5,c6⟩:=gH.out.cells;obtain⟨As,cs,hvs,hcs,hts⟩:=HR3.out.BF jP.out;rw[ji.out]at hvs hts;obtain⟨rfl,rfl⟩:A1=As∧dP=cs:=by simp only[Value.slice.injEq,true_and]at hvs;exact hvs
  rw[Bh.out]at hts;have qa:=ar_ t o.key A1 n dP W3 hts;clear hvs hts hcs;go_wp2_with fail
  ((with_reducible refine qa.mono ?_);rintro e W4 ⟨rfl,b4⟩)
  have HR4:=ah (HR3.out.below b4);have jV:=ah (jP.out.below b4);have cB:=ah (aA HB3.out b4);have kQ:=ah (aj.below HZ3.out b4);have fA:=ah (fH.below gH.out b4);have Nb:=cB.out.size;have OV:Hid (l.length≤20):=by have:=iC.out.2.2;have:=ji.out;have:=HN.out;show _≤_;omega
  clear qa b4 c0 c1 c2 c3 c4 c5 c6 HR1 jl HB1 HZ1 eZ HR2 iR HB2 HZ2 eX HR3 jP HB3 HZ3 gH;obtain⟨c0,c1,c2,c3,c4,c5,c6⟩:=fA.out.cells;have Pp:Hid (W0.heap.size≤W4.heap.size):=by have h1:=HS2.out;have h2:=aj.lt kQ.out;show _≤_;omega
  have hkb:=auX HO.out.1
  cases hidx:jS t o.key with
  |none=>
   simp only[Dl];rw[hidx]at HD
   by_cases k6:o.kind=6
   ·have HE:Hid (bO t o=(t,⟨0,0,ByteArray.empty,jh t o⟩)):=by show _=_;rw[HD.out,if_pos k6]
    have e6:(o.kind==6)=true:=by simpa using k6
    clear k6;have hts:=HR4.out.BF jV.out;obtain⟨As,cs,hvs,hcs,hts⟩:=hts;rw[ji.out]at hvs hts;obtain⟨rfl,rfl⟩:A1=As∧dP=cs:=by simp only[Value.slice.injEq,true_and]at hvs;exact hvs
    rw[Bh.out]at hts;have qs:=ahj t o A1 n dP W4 hts (by omega);unfold gU bX at qs;clear hvs hts;go_wp2_with fail
    ((with_reducible refine qs.mono ?_);rintro e W5 ⟨K,rfl,hk5,b5⟩)
    have cZ:=aj.below kQ.out b5;have iQ:=HR4.out.below b5;have hx5:=jV.out.below b5;have hb5:=aA cB.out b5;have hkb:=Lc (b:=w.heap.size) cB.out.size hk5;obtain⟨AK,cK,hK⟩:=xV hk5;subst hK;have hkn:some (w.heap.size+1)≠(Value.slice AK (jh t o).length cK).ownBlock:=fun e=>by have:=(hk5.lt _ e.symm).1;have:=aj.lt kQ.out;omega
    clear b5 qs hk5;obtain⟨z0,z1,z2,z3⟩:=aY cZ;obtain⟨f0,f1,f2,f3⟩:=dX cZ;have hne:=tH iQ cZ (by decide);have hfin:=jI cZ (.int .i64 0) (.int .i64 0) (.string ByteArray.empty) (.slice AK (jh t o).length cK);obtain⟨e0,e1,e2,e3⟩:=aY hfin;have iB:=ah (bf.base (b:=w.heap.size) (Nat.le_of_lt (by have:=dK.out;omega)) (qG iQ hne (.int .i64 0) (.int .i64 0) (.string ByteArray.empty) (.slice AK (jh t o).length cK)));have iH:=ah (qA hx5 cZ (by decide) (.int .i64 0) (.int .i64 0) (.string ByteArray.empty) (.slice AK (jh t o).length cK));have aU:=ah (jG (g:=(w.heap.size+1)) hb5 (by omega) (.int .i64 0) (.int .i64 0) (.string ByteArray.empty) (.slice AK (jh t o).length cK));have gV:=ah (uD hkb hkn (.int .i64 0) (.int .i64 0) (.string ByteArray.empty) (.slice AK (jh t o).length cK));clear hfin hne;go_wp2_with fail;refine bodyPost_ret (v:=.tuple #[.slice A1 n dP,.agg #[(.int .i64 0),(.int .i64 0),(.string ByteArray.empty),(.slice AK (jh t o).length cK)]]) (by simp[results,Tryz.results27,go_sem,e0,e1,e2,e3]) rfl ⟨_,l,(.slice AK (jh t o).length cK),by rw[HE.out];rfl,iB.out,by rw[HE.out];exact g_.out,iH.out,by rw[HE.out];exact gV.out,aU.out⟩
   have e6:(o.kind==6)=false:=by simpa using k6
   by_cases k2:o.kind=2
   ·have HE:Hid (bO t o=bM t none o):=by show _=_;rw[HD.out,if_neg k6,if_pos k2]
    have e2:(o.kind==2)=true:=by simpa using k2
    clear k6 k2;have qp:=VG l (none) o A1 n dP W0.heap.size W4 HR4.out jV.out Pp.out OV.out HO.out (fun i h=>by cases h) (by rw[ji.out]);rw[Bh.out]at qp;unfold gU PY bX at qp;simp only[Dl]at qp;go_wp2_with fail
    ((with_reducible refine qp.mono ?_);rintro e W5 ⟨v5,l5,rfl,iQ,C_,hx5,b5⟩)
    have cZ:aj W5 (w.heap.size+1) (.cells z4 43 (0,0)):=Eq.trans (b5.block _ (by have:=dK.out;omega)) kQ.out;have hb5:Below w.heap.size w W5:=by have h1:=cB.out;have h2:=dK.out;exact h1.trans ⟨b5.os,b5.tape,b5.output,b5.size,fun i hi=>b5.block i (by omega)⟩
    have g_:Hid (l5.map Prod.fst=(bM t (none) o).1):=C_;clear qp b5 C_;obtain⟨z0,z1,z2,z3⟩:=aY cZ;obtain⟨f0,f1,f2,f3⟩:=dX cZ;have hne:=tH iQ cZ (by decide);have hfin:=jI cZ (.int .i64 (bM t (none) o).2.errno) (.int .i64 (bM t (none) o).2.rev) (.string (bM t (none) o).2.value) (.slice none 0 0);obtain⟨e0,e1,e2,e3⟩:=aY hfin;have iB:=ah (bf.base (b:=w.heap.size) (Nat.le_of_lt (by have:=dK.out;omega)) (qG iQ hne (.int .i64 (bM t (none) o).2.errno) (.int .i64 (bM t (none) o).2.rev) (.string (bM t (none) o).2.value) (.slice none 0 0)));have iH:=ah (qA hx5 cZ (by decide) (.int .i64 (bM t (none) o).2.errno) (.int .i64 (bM t (none) o).2.rev) (.string (bM t (none) o).2.value) (.slice none 0 0));have aU:=ah (jG (g:=(w.heap.size+1)) hb5 (by omega) (.int .i64 (bM t (none) o).2.errno) (.int .i64 (bM t (none) o).2.rev) (.string (bM t (none) o).2.value) (.slice none 0 0));have gV:=ah (uD (nI W5 w.heap.size) (g:=w.heap.size+1) (by simp[Value.ownBlock]) (.int .i64 (bM t (none) o).2.errno) (.int .i64 (bM t (none) o).2.rev) (.string (bM t (none) o).2.value) (.slice none 0 0));clear hfin hne;go_wp2_with fail;refine bodyPost_ret (v:=.tuple #[v5,.agg #[(.int .i64 (bM t (none) o).2.errno),(.int .i64 (bM t (none) o).2.rev),(.string (bM t (none) o).2.value),(.slice none 0 0)]]) (by simp[results,Tryz.results27,go_sem,e0,e1,e2,e3]) rfl ⟨_,l5,(.slice none 0 0),by rw[HE.out];rfl,iB.out,by rw[HE.out];exact g_.out,iH.out,by rw[HE.out];rw[RQ];exact gV.out,aU.out⟩
   have e2:(o.kind==2)=false:=by simpa using k2
   by_cases k4:o.kind=4
   ·have e4:(o.kind==4)=true:=by simpa using k4
    by_cases hr:(0:Int)=o.rev
    ·have HE:Hid (bO t o=bM t none o):=by show _=_;rw[HD.out,if_neg k6,if_neg k2,if_pos k4,if_neg (fun h=>h hr)]
     have er:((0:Int) != o.rev)=false:=by simpa using hr
     clear k6 k2 k4 hr;have qp:=VG l (none) o A1 n dP W0.heap.size W4 HR4.out jV.out Pp.out OV.out HO.out (fun i h=>by cases h) (by rw[ji.out]);rw[Bh.out]at qp;unfold gU PY bX at qp;simp only[Dl]at qp;go_wp2_with fail
     ((with_reducible refine qp.mono ?_);rintro e W5 ⟨v5,l5,rfl,iQ,C_,hx5,b5⟩)
     have cZ:aj W5 (w.heap.size+1) (.cells z4 43 (0,0)):=Eq.trans (b5.block _ (by have:=dK.out;omega)) kQ.out;have hb5:Below w.heap.size w W5:=by have h1:=cB.out;have h2:=dK.out;exact h1.trans ⟨b5.os,b5.tape,b5.output,b5.size,fun i hi=>b5.block i (by omega)⟩
     have g_:Hid (l5.map Prod.fst=(bM t (none) o).1):=C_;clear qp b5 C_;obtain⟨z0,z1,z2,z3⟩:=aY cZ;obtain⟨f0,f1,f2,f3⟩:=dX cZ;have hne:=tH iQ cZ (by decide);have hfin:=jI cZ (.int .i64 (bM t (none) o).2.errno) (.int .i64 (bM t (none) o).2.rev) (.string (bM t (none) o).2.value) (.slice none 0 0);obtain⟨e0,e1,e2,e3⟩:=aY hfin;have iB:=ah (bf.base (b:=w.heap.size) (Nat.le_of_lt (by have:=dK.out;omega)) (qG iQ hne (.int .i64 (bM t (none) o).2.errno) (.int .i64 (bM t (none) o).2.rev) (.string (bM t (none) o).2.value) (.slice none 0 0)));have iH:=ah (qA hx5 cZ (by decide) (.int .i64 (bM t (none) o).2.errno) (.int .i64 (bM t (none) o).2.rev) (.string (bM t (none) o).2.value) (.slice none 0 0));have aU:=ah (jG (g:=(w.heap.size+1)) hb5 (by omega) (.int .i64 (bM t (none) o).2.errno) (.int .i64 (bM t (none) o).2.rev) (.string (bM t (none) o).2.value) (.slice none 0 0));have gV:=ah (uD (nI W5 w.heap.size) (g:=w.heap.size+1) (by simp[Value.ownBlock]) (.int .i64 (bM t (none) o).2.errno) (.int .i64 (bM t (none) o).2.rev) (.string (bM t (none) o).2.value) (.slice none 0 0));clear hfin hne;go_wp2_with fail;refine bodyPost_ret (v:=.tuple #[v5,.agg #[(.int .i64 (bM t (none) o).2.errno),(.int .i64 (bM t (none) o).2.rev),(.string (bM t (none) o).2.value),(.slice none 0 0)]]) (by simp[results,Tryz.results27,go_sem,e0,e1,e2,e3]) rfl ⟨_,l5,(.slice none 0 0),by rw[HE.out];rfl,iB.out,by rw[HE.out];exact g_.out,iH.out,by rw[HE.out];rw[RQ];exact gV.out,aU.out⟩
    ·have HE:Hid (bO t o=(t,⟨71,0,ByteArray.empty,[]⟩)):=by show _=_;rw[HD.out,if_neg k6,if_neg k2,if_pos k4,if_pos (show FZ t none≠o.rev from hr)];rfl
     have er:((0:Int) != o.rev)=true:=by simpa using hr
     clear k6 k2 k4 hr;obtain⟨z0,z1,z2,z3⟩:=aY kQ.out;obtain⟨f0,f1,f2,f3⟩:=dX kQ.out;have hne:=tH HR4.out kQ.out (by decide);have hfin:=jI kQ.out (.int .i64 71) (.int .i64 0) (.string ⟨#[]⟩) (.slice none 0 0);obtain⟨e0,e1,e2,e3⟩:=aY hfin;have iB:=ah (bf.base (b:=w.heap.size) (Nat.le_of_lt (by have:=dK.out;omega)) (qG HR4.out hne (.int .i64 71) (.int .i64 0) (.string ⟨#[]⟩) (.slice none 0 0)));have iH:=ah (qA jV.out kQ.out (by decide) (.int .i64 71) (.int .i64 0) (.string ⟨#[]⟩) (.slice none 0 0));have aU:=ah (jG (g:=(w.heap.size+1)) cB.out (by omega) (.int .i64 71) (.int .i64 0) (.string ⟨#[]⟩) (.slice none 0 0));have gV:=ah (uD (nI W4 w.heap.size) (g:=w.heap.size+1) (by simp[Value.ownBlock]) (.int .i64 71) (.int .i64 0) (.string ⟨#[]⟩) (.slice none 0 0));clear hfin hne;go_wp2_with fail;refine bodyPost_ret (v:=.tuple #[.slice A1 n dP,.agg (bR 71 (.slice none 0 0))]) (by simp[results,Tryz.results27,go_sem,e0,e1,e2,e3]) rfl ⟨_,l,(.slice none 0 0),by rw[HE.out];rfl,iB.out,by rw[HE.out];exact g_.out,iH.out,by rw[HE.out];exact gV.out,aU.out⟩
   have e4:(o.kind==4)=false:=by simpa using k4
   have HE:Hid (bO t o=(t,gK 70)):=by show _=_;rw[HD.out,if_neg k6,if_neg k2,if_neg k4]
   clear k6 k2 k4;have qf:=fun W=>Nv 70 70 rfl W;go_wp2_with fail
   ((with_reducible refine(qf _).mono ?_);rintro e W5 ⟨rfl,b5⟩)
   have cZ:=aj.below kQ.out b5;have iQ:=HR4.out.below b5;have hx5:=jV.out.below b5;have hb5:=aA cB.out b5;clear b5;obtain⟨z0,z1,z2,z3⟩:=aY cZ;obtain⟨f0,f1,f2,f3⟩:=dX cZ;have hne:=tH iQ cZ (by decide);have hfin:=jI cZ (.int .i64 70) (.int .i64 0) (.string ByteArray.empty) (.slice none 0 0);obtain⟨e0,e1,e2,e3⟩:=aY hfin;have iB:=ah (bf.base (b:=w.heap.size) (Nat.le_of_lt (by have:=dK.out;omega)) (qG iQ hne (.int .i64 70) (.int .i64 0) (.string ByteArray.empty) (.slice none 0 0)));have iH:=ah (qA hx5 cZ (by decide) (.int .i64 70) (.int .i64 0) (.string ByteArray.empty) (.slice none 0 0));have aU:=ah (jG (g:=(w.heap.size+1)) hb5 (by omega) (.int .i64 70) (.int .i64 0) (.string ByteArray.empty) (.slice none 0 0));have gV:=ah (uD (nI W5 w.heap.size) (g:=w.heap.size+1) (by simp[Value.ownBlock]) (.int .i64 70) (.int .i64 0) (.string ByteArray.empty) (.slice none 0 0));clear hfin hne;go_wp2_with fail;refine bodyPost_ret (v:=.tuple #[.slice A1 n dP,.agg #[(.int .i64 70),(.int .i64 0),(.string ByteArray.empty),(.slice none 0 0)]]) (by simp[results,Tryz.results27,go_sem,e0,e1,e2,e3]) rfl ⟨_,l,(.slice none 0 0),by rw[HE.out];rfl,iB.out,by rw[HE.out];exact g_.out,iH.out,by rw[HE.out];exact gV.out,aU.out⟩
  |some i=>
   simp only[Dl];rw[hidx]at HD;have hit:=(Ro hidx).1;have hin:i<n:=by have:=HN.out;omega
   have jB:Hid (i<l.length):=by have:=ji.out;show _<_;omega
   obtain⟨g,hA,hbg⟩:=HR4.out.qh jB.out;subst hA;obtain⟨x0,x1,x2,x3,x4,x5⟩:=HR4.out.six jB.out;have tY:Hid ((aK l i).1=atR t i):=by show _=_;rw[Cz l jB.out,Bh.out]
   have yS:=iC.out.1 _ (sK hit);have yB:Hid (0≤(atR t i).rev∧(atR t i).rev≤9007199254740992):=ahl yS;have apA:(0:Int)≤(i:Int):=by omega
   have hii1:(i:Int)<(n:Int):=by omega
   have hii2:¬((i:Int)<0):=by omega
   rw[tY.out]at x0 x1 x2 x3 x4;have jk:Hid (∀j,some i=some j→j<l.length∧0≤(aK l j).1.rev∧(aK l j).1.rev≤bZ):=fun j hj=>by
    cases hj
    refine⟨jB.out,?_,?_⟩<;>rw[tY.out]
    ·exact yB.out.1
    ·exact yB.out.2
   clear yS hit;generalize hr0:atR t i=r at*
   by_cases k6:o.kind=6
   ·have HE:Hid (bO t o=(t,⟨0,0,ByteArray.empty,jh t o⟩)):=by show _=_;rw[HD.out,if_pos k6]
    have e6:(o.kind==6)=true:=by simpa using k6
    clear k6;have hts:=HR4.out.BF jV.out;obtain⟨As,cs,hvs,hcs,hts⟩:=hts;rw[ji.out]at hvs hts;obtain⟨rfl,rfl⟩:(some ⟨g,0,none⟩)=As∧dP=cs:=by simp only[Value.slice.injEq,true_and]at hvs;exact hvs
    rw[Bh.out]at hts;have qs:=ahj t o (some ⟨g,0,none⟩) n dP W4 hts (by omega);unfold gU bX at qs;clear hvs hts;go_wp2_with fail
    ((with_reducible refine qs.mono ?_);rintro e W5 ⟨K,rfl,hk5,b5⟩)
    have cZ:=aj.below kQ.out b5;have iQ:=HR4.out.below b5;have hx5:=jV.out.below b5;have hb5:=aA cB.out b5;have hkb:=Lc (b:=w.heap.size) cB.out.size hk5;obtain⟨AK,cK,hK⟩:=xV hk5;subst hK;have hkn:some (w.heap.size+1)≠(Value.slice AK (jh t o).length cK).ownBlock:=fun e=>by have:=(hk5.lt _ e.symm).1;have:=aj.lt kQ.out;omega
    clear b5 qs hk5;obtain⟨z0,z1,z2,z3⟩:=aY cZ;obtain⟨f0,f1,f2,f3⟩:=dX cZ;have hne:=tH iQ cZ (by decide);have hfin:=jI cZ (.int .i64 0) (.int .i64 0) (.string ByteArray.empty) (.slice AK (jh t o).length cK);obtain⟨e0,e1,e2,e3⟩:=aY hfin;have iB:=ah (bf.base (b:=w.heap.size) (Nat.le_of_lt (by have:=dK.out;omega)) (qG iQ hne (.int .i64 0) (.int .i64 0) (.string ByteArray.empty) (.slice AK (jh t o).length cK)));have iH:=ah (qA hx5 cZ (by decide) (.int .i64 0) (.int .i64 0) (.string ByteArray.empty) (.slice AK (jh t o).length cK));have aU:=ah (jG (g:=(w.heap.size+1)) hb5 (by omega) (.int .i64 0) (.int .i64 0) (.string ByteArray.empty) (.slice AK (jh t o).length cK));have gV:=ah (uD hkb hkn (.int .i64 0) (.int .i64 0) (.string ByteArray.empty) (.slice AK (jh t o).length cK));clear hfin hne;go_wp2_with fail;refine bodyPost_ret (v:=.tuple #[.slice (some ⟨g,0,none⟩) n dP,.agg #[(.int .i64 0),(.int .i64 0),(.string ByteArray.empty),(.slice AK (jh t o).length cK)]]) (by simp[results,Tryz.results27,go_sem,e0,e1,e2,e3]) rfl ⟨_,l,(.slice AK (jh t o).length cK),by rw[HE.out];rfl,iB.out,by rw[HE.out];exact g_.out,iH.out,by rw[HE.out];exact gV.out,aU.out⟩
   have e6:(o.kind==6)=false:=by simpa using k6
   by_cases k2:o.kind=2
   ·have HE:Hid (bO t o=bM t (some i) o):=by show _=_;rw[HD.out,if_neg k6,if_pos k2]
    have e2:(o.kind==2)=true:=by simpa using k2
    clear k6 k2;have qp:=VG l (some i) o (some ⟨g,0,none⟩) n dP W0.heap.size W4 HR4.out jV.out Pp.out OV.out HO.out (jk.out) (by rw[ji.out]);rw[Bh.out]at qp;unfold gU PY bX at qp;simp only[Dl]at qp;go_wp2_with fail
    ((with_reducible refine qp.mono ?_);rintro e W5 ⟨v5,l5,rfl,iQ,C_,hx5,b5⟩)
    have cZ:aj W5 (w.heap.size+1) (.cells z4 43 (0,0)):=Eq.trans (b5.block _ (by have:=dK.out;omega)) kQ.out;have hb5:Below w.heap.size w W5:=by have h1:=cB.out;have h2:=dK.out;exact h1.trans ⟨b5.os,b5.tape,b5.output,b5.size,fun i hi=>b5.block i (by omega)⟩
    have g_:Hid (l5.map Prod.fst=(bM t (some i) o).1):=C_;clear qp b5 C_;obtain⟨z0,z1,z2,z3⟩:=aY cZ;obtain⟨f0,f1,f2,f3⟩:=dX cZ;have hne:=tH iQ cZ (by decide);have hfin:=jI cZ (.int .i64 (bM t (some i) o).2.errno) (.int .i64 (bM t (some i) o).2.rev) (.string (bM t (some i) o).2.value) (.slice none 0 0);obtain⟨e0,e1,e2,e3⟩:=aY hfin;have iB:=ah (bf.base (b:=w.heap.size) (Nat.le_of_lt (by have:=dK.out;omega)) (qG iQ hne (.int .i64 (bM t (some i) o).2.errno) (.int .i64 (bM t (some i) o).2.rev) (.string (bM t (some i) o).2.value) (.slice none 0 0)));have iH:=ah (qA hx5 cZ (by decide) (.int .i64 (bM t (some i) o).2.errno) (.int .i64 (bM t (some i) o).2.rev) (.string (bM t (some i) o).2.value) (.slice none 0 0));have aU:=ah (jG (g:=(w.heap.size+1)) hb5 (by omega) (.int .i64 (bM t (some i) o).2.errno) (.int .i64 (bM t (some i) o).2.rev) (.string (bM t (some i) o).2.value) (.slice none 0 0));have gV:=ah (uD (nI W5 w.heap.size) (g:=w.heap.size+1) (by simp[Value.ownBlock]) (.int .i64 (bM t (some i) o).2.errno) (.int .i64 (bM t (some i) o).2.rev) (.string (bM t (some i) o).2.value) (.slice none 0 0));clear hfin hne;go_wp2_with fail;refine bodyPost_ret (v:=.tuple #[v5,.agg #[(.int .i64 (bM t (some i) o).2.errno),(.int .i64 (bM t (some i) o).2.rev),(.string (bM t (some i) o).2.value),(.slice none 0 0)]]) (by simp[results,Tryz.results27,go_sem,e0,e1,e2,e3]) rfl ⟨_,l5,(.slice none 0 0),by rw[HE.out];rfl,iB.out,by rw[HE.out];exact g_.out,iH.out,by rw[HE.out];rw[RQ];exact gV.out,aU.out⟩
   have e2:(o.kind==2)=false:=by simpa using k2
   by_cases k4:o.kind=4
   ·have e4:(o.kind==4)=true:=by simpa using k4
    by_cases hr:r.rev=o.rev
    ·have HE:Hid (bO t o=bM t (some i) o):=by show _=_;rw[HD.out,if_neg k6,if_neg k2,if_pos k4,if_neg (fun h=>h (by show(atR t i).rev=o.rev;rw[hr0];exact hr))]
     have er:(r.rev != o.rev)=false:=by simpa using hr
     clear k6 k2 k4 hr;have qp:=VG l (some i) o (some ⟨g,0,none⟩) n dP W0.heap.size W4 HR4.out jV.out Pp.out OV.out HO.out (jk.out) (by rw[ji.out]);rw[Bh.out]at qp;unfold gU PY bX at qp;simp only[Dl]at qp;go_wp2_with fail
     ((with_reducible refine qp.mono ?_);rintro e W5 ⟨v5,l5,rfl,iQ,C_,hx5,b5⟩)
     have cZ:aj W5 (w.heap.size+1) (.cells z4 43 (0,0)):=Eq.trans (b5.block _ (by have:=dK.out;omega)) kQ.out;have hb5:Below w.heap.size w W5:=by have h1:=cB.out;have h2:=dK.out;exact h1.trans ⟨b5.os,b5.tape,b5.output,b5.size,fun i hi=>b5.block i (by omega)⟩
     have g_:Hid (l5.map Prod.fst=(bM t (some i) o).1):=C_;clear qp b5 C_;obtain⟨z0,z1,z2,z3⟩:=aY cZ;obtain⟨f0,f1,f2,f3⟩:=dX cZ;have hne:=tH iQ cZ (by decide);have hfin:=jI cZ (.int .i64 (bM t (some i) o).2.errno) (.int .i64 (bM t (some i) o).2.rev) (.string (bM t (some i) o).2.value) (.slice none 0 0);obtain⟨e0,e1,e2,e3⟩:=aY hfin;have iB:=ah (bf.base (b:=w.heap.size) (Nat.le_of_lt (by have:=dK.out;omega)) (qG iQ hne (.int .i64 (bM t (some i) o).2.errno) (.int .i64 (bM t (some i) o).2.rev) (.string (bM t (some i) o).2.value) (.slice none 0 0)));have iH:=ah (qA hx5 cZ (by decide) (.int .i64 (bM t (some i) o).2.errno) (.int .i64 (bM t (some i) o).2.rev) (.string (bM t (some i) o).2.value) (.slice none 0 0));have aU:=ah (jG (g:=(w.heap.size+1)) hb5 (by omega) (.int .i64 (bM t (some i) o).2.errno) (.int .i64 (bM t (some i) o).2.rev) (.string (bM t (some i) o).2.value) (.slice none 0 0));have gV:=ah (uD (nI W5 w.heap.size) (g:=w.heap.size+1) (by simp[Value.ownBlock]) (.int .i64 (bM t (some i) o).2.errno) (.int .i64 (bM t (some i) o).2.rev) (.string (bM t (some i) o).2.value) (.slice none 0 0));clear hfin hne;go_wp2_with fail;refine bodyPost_ret (v:=.tuple #[v5,.agg #[(.int .i64 (bM t (some i) o).2.errno),(.int .i64 (bM t (some i) o).2.rev),(.string (bM t (some i) o).2.value),(.slice none 0 0)]]) (by simp[results,Tryz.results27,go_sem,e0,e1,e2,e3]) rfl ⟨_,l5,(.slice none 0 0),by rw[HE.out];rfl,iB.out,by rw[HE.out];exact g_.out,iH.out,by rw[HE.out];rw[RQ];exact gV.out,aU.out⟩
    ·have HE:Hid (bO t o=(t,⟨71,r.rev,ByteArray.empty,[]⟩)):=by show _=_;rw[HD.out,if_neg k6,if_neg k2,if_pos k4,if_pos (by show(atR t i).rev≠o.rev;rw[hr0];exact hr)];show(t,(⟨71,(atR t i).rev,ByteArray.empty,[]⟩:dx))=_;rw[hr0]
     have er:(r.rev != o.rev)=true:=by simpa using hr
     clear k6 k2 k4 hr;obtain⟨z0,z1,z2,z3⟩:=aY kQ.out;obtain⟨f0,f1,f2,f3⟩:=dX kQ.out;have hne:=tH HR4.out kQ.out (by decide);have hfin:=jI kQ.out (.int .i64 71) (.int .i64 r.rev) (.string ⟨#[]⟩) (.slice none 0 0);obtain⟨e0,e1,e2,e3⟩:=aY hfin;have iB:=ah (bf.base (b:=w.heap.size) (Nat.le_of_lt (by have:=dK.out;omega)) (qG HR4.out hne (.int .i64 71) (.int .i64 r.rev) (.string ⟨#[]⟩) (.slice none 0 0)));have iH:=ah (qA jV.out kQ.out (by decide) (.int .i64 71) (.int .i64 r.rev) (.string ⟨#[]⟩) (.slice none 0 0));have aU:=ah (jG (g:=(w.heap.size+1)) cB.out (by omega) (.int .i64 71) (.int .i64 r.rev) (.string ⟨#[]⟩) (.slice none 0 0));have gV:=ah (uD (nI W4 w.heap.size) (g:=w.heap.size+1) (by simp[Value.ownBlock]) (.int .i64 71) (.int .i64 r.rev) (.string ⟨#[]⟩) (.slice none 0 0));clear hfin hne;go_wp2_with fail;refine bodyPost_ret (v:=.tuple #[.slice (some ⟨g,0,none⟩) n dP,.agg #[(.int .i64 71),(.int .i64 r.rev),(.string ⟨#[]⟩),(.slice none 0 0)]]) (by simp[results,Tryz.results27,go_sem,e0,e1,e2,e3]) rfl ⟨_,l,(.slice none 0 0),by rw[HE.out];rfl,iB.out,by rw[HE.out];exact g_.out,iH.out,by rw[HE.out];exact gV.out,aU.out⟩
   have e4:(o.kind==4)=false:=by simpa using k4
   have HD2:Hid (bO t o=if o.kind=1 then(t,⟨0,r.rev,r.value,[]⟩)else if o.kind=3 then(t.eraseIdx i,⟨0,r.rev,ByteArray.empty,[]⟩)else if r.rev=bZ then(t,gK 50)else(t.set i (uy r o),⟨0,r.rev+1,ByteArray.empty,[]⟩)):=by
    show _=_;rw[HD.out,if_neg k6,if_neg k2,if_neg k4,←hr0]
   clear HD k6 k2 k4
   by_cases k1:o.kind=1
   ·have HE:Hid (bO t o=(t,⟨0,r.rev,r.value,[]⟩)):=by show _=_;rw[HD2.out,if_pos k1]
    have e1:(o.kind==1)=true:=by simpa using k1
    clear k1;have hg1:decide ((i:Int)<0)=false:=decide_eq_false (by omega);have hg2:decide ((n:Int)≤(i:Int))=false:=decide_eq_false (by omega);have QS:decide (n≤i)=false:=decide_eq_false (by omega);go_upto_region 20 with fail;obtain⟨z0,z1,z2,z3⟩:=aY kQ.out;obtain⟨f0,f1,f2,f3⟩:=dX kQ.out;go_region;have hne:=tH HR4.out kQ.out (by decide);have hfin:=jI kQ.out (.int .i64 0) (.int .i64 r.rev) (.string r.value) (.slice none 0 0);obtain⟨e0,e1,e2,e3⟩:=aY hfin;have iB:=ah (bf.base (b:=w.heap.size) (Nat.le_of_lt (by have:=dK.out;omega)) (qG HR4.out hne (.int .i64 0) (.int .i64 r.rev) (.string r.value) (.slice none 0 0)));have iH:=ah (qA jV.out kQ.out (by decide) (.int .i64 0) (.int .i64 r.rev) (.string r.value) (.slice none 0 0));have aU:=ah (jG (g:=(w.heap.size+1)) cB.out (by omega) (.int .i64 0) (.int .i64 r.rev) (.string r.value) (.slice none 0 0));have gV:=ah (uD (nI W4 w.heap.size) (g:=w.heap.size+1) (by simp[Value.ownBlock]) (.int .i64 0) (.int .i64 r.rev) (.string r.value) (.slice none 0 0));clear hfin hne;go_wp2_with fail;refine bodyPost_ret (v:=.tuple #[.slice (some ⟨g,0,none⟩) n dP,.agg #[(.int .i64 0),(.int .i64 r.rev),(.string r.value),(.slice none 0 0)]]) (by simp[results,Tryz.results27,go_sem,e0,e1,e2,e3]) rfl ⟨_,l,(.slice none 0 0),by rw[HE.out];rfl,iB.out.drew,by rw[HE.out];exact g_.out,iH.out.drew,by rw[HE.out];exact gV.out.ae0,aU.out.drew⟩
   have e1:(o.kind==1)=false:=by simpa using k1
   by_cases k3:o.kind=3
   ·have HE:Hid (bO t o=(t.eraseIdx i,⟨0,r.rev,ByteArray.empty,[]⟩)):=by show _=_;rw[HD2.out,if_neg k1,if_pos k3]
    have e3:(o.kind==3)=true:=by simpa using k3
    clear k1 k3;have hil:=jB.out;have Mh:=ah (bf.take HR4.out (Nat.le_of_lt hil));have bI:Hid ((l.take i).length+(n-(i+1))=n-1):=by show _=_;rw[List.length_take];have:=ji.out;omega
    obtain⟨A2,hsl⟩:∃A2,(if dP=i+1 then some (⟨g,0,none⟩:Addr)else some ⟨g,(i+1)*6,none⟩)=A2:=⟨_,rfl⟩;have hcn:n≤dP:=by have:=ji.out;omega
    have HDR:Hid (uV W4 A2 (n-(i+1)) (l.drop (i+1))):=arA HR4.out ji.out hin (fun h=>by rw[←hsl,if_neg (by omega)]);have HSD:Hid (wm (l.drop (i+1))):=fun p hp=>jV.out.sl p (List.mem_of_mem_drop hp);have hj4:i≤dP:=by omega
    have hj5:(0:Int)≤(i:Int)+1:=by omega
    have hj6:(i:Int)+1≤(n:Int):=by omega
    have hj7:(i:Int)≤(dP:Int):=by omega
    have hj8:(i:Int)≤(n:Int):=by omega
    have hwr:IntKind.i64.wrap ((i:Int)+1)=(i:Int)+1:=IntWalk.i64_in _ (by omega);go_upto_region 22 with fail;clear x0 x1 x2 x3 x4 x5 c0 c1 c2 c3 c4 c5 c6;refine wp_region_noPanic ?_;refine wp_region_held_drew (S:=(fun _=>True)) (by kernel_rfl) (trivial) (fun hHeld=>?_);refine ay 0 ?_;refine ay 1 ?_;refine ay 2 ?_;refine ay 3 ?_;refine ay 4 ?_;refine ay 5 ?_;refine ay 6 ?_;refine ay 8 ?_;refine ay 9 ?_;refine wpAnyH_ready (rs:=[7]) (by kernel_rfl) (by simp) ?_;refine AllReadyH.cons rfl (fun K hK=>?_) AllReadyH.nil;refine atY rfl _ _ rfl W0.heap.size _ (l.take i) rfl Mh.out A2 (n-(i+1)) (dP-(i+1)) (l.drop (i+1)) rfl HDR.out HSD.out (by rw[List.length_take];have:=OV.out;omega) Pp.out ?_;intro A7 amQ V7 aaL U2;rw[bI.out]at aaL ⊢;have aaB:=Mh.out.lt;have hx7:=(afb i jV.out).drew.kept U2 Mh.out.block;have hz7:aj V7 (w.heap.size+1) (.cells z4 43 (0,0)):=aj.kept (aj.drew kQ.out) U2 (fun e=>by have:=(aaB _ e.symm).1;have:=dK.out;omega);have CZ:Below w.heap.size w V7:=cB.out.drew.grown U2 cB.out.size (fun q hq=>by have:=(aaB q hq).1;have:=dK.out;omega);have HR7:=ah aaL;have Fe:=ah hx7;have Ec:=ah hz7;have lM:=ah CZ;have g_:Hid ((l.take i++l.drop (i+1)).map Prod.fst=t.eraseIdx i):=by show _=_;rw[←Bh.out,List.eraseIdx_eq_take_drop_succ,List.map_append,List.map_take,List.map_drop]
    refine hK.out _ _ trivial (fun QE=>?_);clear hK K hHeld U2 CZ aaL aaB hx7 hz7;have hHeld:=QE;clear QE;refine ay 10 ?_;obtain⟨z0,z1,z2,z3⟩:=aY Ec.out;obtain⟨f0,f1,f2,f3⟩:=dX Ec.out;refine bH 11 fun K hK=>?_;go_simp;refine hK.out _ _ (trivial) fun hHeld=>?_;clear hK K;refine wpAnyH_done (by kernel_rfl) ?_ _;refine NoPanic.normal ?_;have hne:=tH HR7.out Ec.out (by decide);have hfin:=jI Ec.out (.int .i64 0) (.int .i64 r.rev) (.string ⟨#[]⟩) (.slice none 0 0);obtain⟨e0,e1,e2,e3⟩:=aY hfin;have iB:=ah (bf.base (b:=w.heap.size) (Nat.le_of_lt (by have:=dK.out;omega)) (qG HR7.out hne (.int .i64 0) (.int .i64 r.rev) (.string ⟨#[]⟩) (.slice none 0 0)));have iH:=ah (qA Fe.out Ec.out (by decide) (.int .i64 0) (.int .i64 r.rev) (.string ⟨#[]⟩) (.slice none 0 0));have aU:=ah (jG (g:=(w.heap.size+1)) lM.out (by omega) (.int .i64 0) (.int .i64 r.rev) (.string ⟨#[]⟩) (.slice none 0 0));have gV:=ah (uD (nI V7 w.heap.size) (g:=w.heap.size+1) (by simp[Value.ownBlock]) (.int .i64 0) (.int .i64 r.rev) (.string ⟨#[]⟩) (.slice none 0 0));clear hfin hne;go_wp2_with fail;refine bodyPost_ret (v:=.tuple #[.slice A7 (n-1) amQ,.agg #[(.int .i64 0),(.int .i64 r.rev),(.string ⟨#[]⟩),(.slice none 0 0)]]) (by simp[results,Tryz.results27,go_sem,e0,e1,e2,e3]) rfl ⟨_,(l.take i++l.drop (i+1)),(.slice none 0 0),by rw[HE.out];rfl,iB.out,by rw[HE.out];exact g_.out,iH.out,by rw[HE.out];exact gV.out,aU.out⟩
   have e3:(o.kind==3)=false:=by simpa using k3
   by_cases hm:r.rev=9007199254740992
   ·have HE:Hid (bO t o=(t,gK 50)):=by show _=_;rw[HD2.out,if_neg k1,if_neg k3,if_pos (show r.rev=bZ from hm)]
    have em:(r.rev==9007199254740992)=true:=by simpa using hm
    clear k1 k3 hm;have qf:=fun W=>Nv 50 50 rfl W;go_wp2_with fail
    ((with_reducible refine(qf _).mono ?_);rintro e W5 ⟨rfl,b5⟩)
    have cZ:=aj.below kQ.out b5;have iQ:=HR4.out.below b5;have hx5:=jV.out.below b5;have hb5:=aA cB.out b5;clear b5;obtain⟨z0,z1,z2,z3⟩:=aY cZ;obtain⟨f0,f1,f2,f3⟩:=dX cZ;have hne:=tH iQ cZ (by decide);have hfin:=jI cZ (.int .i64 50) (.int .i64 0) (.string ByteArray.empty) (.slice none 0 0);obtain⟨e0,e1,e2,e3⟩:=aY hfin;have iB:=ah (bf.base (b:=w.heap.size) (Nat.le_of_lt (by have:=dK.out;omega)) (qG iQ hne (.int .i64 50) (.int .i64 0) (.string ByteArray.empty) (.slice none 0 0)));have iH:=ah (qA hx5 cZ (by decide) (.int .i64 50) (.int .i64 0) (.string ByteArray.empty) (.slice none 0 0));have aU:=ah (jG (g:=(w.heap.size+1)) hb5 (by omega) (.int .i64 50) (.int .i64 0) (.string ByteArray.empty) (.slice none 0 0));have gV:=ah (uD (nI W5 w.heap.size) (g:=w.heap.size+1) (by simp[Value.ownBlock]) (.int .i64 50) (.int .i64 0) (.string ByteArray.empty) (.slice none 0 0));clear hfin hne;go_wp2_with fail;refine bodyPost_ret (v:=.tuple #[.slice (some ⟨g,0,none⟩) n dP,.agg #[(.int .i64 50),(.int .i64 0),(.string ByteArray.empty),(.slice none 0 0)]]) (by simp[results,Tryz.results27,go_sem,e0,e1,e2,e3]) rfl ⟨_,l,(.slice none 0 0),by rw[HE.out];rfl,iB.out,by rw[HE.out];exact g_.out,iH.out,by rw[HE.out];exact gV.out,aU.out⟩
   ·have HE:Hid (bO t o=(t.set i (uy r o),⟨0,r.rev+1,ByteArray.empty,[]⟩)):=by show _=_;rw[HD2.out,if_neg k1,if_neg k3,if_neg (show ¬r.rev=bZ from hm)]
    have em:(r.rev==9007199254740992)=false:=by simpa using hm
    have hwr:IntKind.i64.wrap (r.rev+1)=r.rev+1:=IntWalk.i64_in _ (by have:=yB.out;omega);have Yn:Hid ((Lit.int .i64 (r.rev+1)).wf=true):=uE (by have:=yB.out;omega) (by have:=yB.out;omega);clear k1 k3 hm;have hq1:=(bf.set HR4.out i 3 (.int .i64 o.life) ({ (aK l i).1 with life:=o.life },(aK l i).2) jB.out (by omega) rfl).1;have hl1:i<(l.set i ({ (aK l i).1 with life:=o.life },(aK l i).2)).length:=by rw[List.length_set];exact jB.out
    have hq2:=(bf.set hq1 i 4 (.string o.note) ({ (aK l i).1 with life:=o.life,note:=o.note },(aK l i).2) hl1 (by omega) (by rw[xD jB.out];rfl)).1;rw[List.set_set]at hq2;have hl2:i<(l.set i ({ (aK l i).1 with life:=o.life,note:=o.note },(aK l i).2)).length:=by rw[List.length_set];exact jB.out
    have hq3:=(bf.set hq2 i 2 (.int .i64 (r.rev+1)) (uy (aK l i).1 o,(aK l i).2) hl2 (by omega) (by rw[xD jB.out];simp[kK,uy,tY.out])).1;rw[List.set_set]at hq3;have hy1:=hq1.six hl1;have hy2:=hq2.six hl2;rw[xD jB.out]at hy1 hy2;have hE1:=jV.out.kept (rG W4 g (i*6+3) (.int .i64 o.life)) (fun k e=>by cases e;exact HR4.out.block g (by simp[Value.ownBlock]));have hE2:=hE1.kept (rG _ g (i*6+4) (.string o.note)) (fun k e=>by cases e;exact hq1.block g (by simp[Value.ownBlock]));have M6:=hE2.kept (rG _ g (i*6+2) (.int .i64 (r.rev+1))) (fun k e=>by cases e;exact hq2.block g (by simp[Value.ownBlock]));have UW:=(jV.out _ (yM jB.out)).1;have hE4:=UJ M6 jB.out (r:=uy (aK l i).1 o) ⟨⟨UW.1.1,UW.1.2.1,HO.out.2.2.2.2.2.2⟩,by show(Lit.int .i64 ((aK l i).1.rev+1)).wf=true;rw[tY.out];exact Yn.out,HO.out.2.2.2.2.2.1,UW.2.2.2⟩ rfl;have hgw:g≠w.heap.size+1:=by have:=dK.out;omega
    have hz3:=aj.far (aj.far (aj.far kQ.out hgw.symm (i*6+3) (.int .i64 o.life)) hgw.symm (i*6+4) (.string o.note)) hgw.symm (i*6+2) (.int .i64 (r.rev+1));have hgo:w.heap.size≠g:=by have:=dK.out;omega
    have ho1:fH (W4.setCell ⟨g,i*6+3,none⟩ (.int .i64 o.life)) w.heap.size o:=aj.far fA.out hgo _ _;obtain⟨_,_,_,_,_,_,d6⟩:=ho1.cells;have hb3:=((cB.out.setCell (p:=⟨g,i*6+3,none⟩) (by show w.heap.size≤g;have:=dK.out;omega) (.int .i64 o.life)).setCell (p:=⟨g,i*6+4,none⟩) (by show w.heap.size≤g;have:=dK.out;omega) (.string o.note)).setCell (p:=⟨g,i*6+2,none⟩) (by show w.heap.size≤g;have:=dK.out;omega) (.int .i64 (r.rev+1));have g_:Hid ((l.set i (uy (aK l i).1 o,(aK l i).2)).map Prod.fst=t.set i (uy r o)):=by show _=_;rw[Jb,Bh.out,tY.out]
    obtain⟨l2,afN⟩:∃l2,l.set i (uy (aK l i).1 o,(aK l i).2)=l2:=⟨_,rfl⟩;rw[afN]at hq3 hE4 g_;clear afN hl1 hl2 hE1 hE2 M6;have g1:W4.frozen? ⟨g,i*6+3,none⟩=false:=HR4.out.frozen;have g2:(W4.setCell ⟨g,i*6+3,none⟩ (.int .i64 o.life)).frozen? ⟨g,i*6+4,none⟩=false:=hq1.frozen;have g3:((W4.setCell ⟨g,i*6+3,none⟩ (.int .i64 o.life)).setCell ⟨g,i*6+4,none⟩ (.string o.note)).frozen? ⟨g,i*6+2,none⟩=false:=hq2.frozen;obtain⟨_,_,_,_,u4,_⟩:=hy1;obtain⟨_,_,v2,_,_,_⟩:=hy2;simp only[tY.out]at u4 v2;have He:=ah hq3;clear hq3 hq1 hq2;have oL:=ah hE4;clear hE4;have Hy:=ah hz3;clear hz3;have eH:=ah hb3;clear hb3;clear ho1 UW;go_upto_region 28 with fail;obtain⟨V,hV⟩:∃V,((W4.setCell ⟨g,i*6+3,none⟩ (.int .i64 o.life)).setCell ⟨g,i*6+4,none⟩ (.string o.note)).setCell ⟨g,i*6+2,none⟩ (.int .i64 (r.rev+1))=V:=⟨_,rfl⟩;rw[hV]at He oL Hy eH ⊢;clear hV x0 x1 x2 x3 x4 x5 g1 g2 g3 u4 v2 c0 c1 c2 c3 c4 c5 c6 d6;obtain⟨z0,z1,z2,z3⟩:=aY Hy.out;obtain⟨f0,f1,f2,f3⟩:=dX Hy.out;have hne:=tH He.out Hy.out (by decide);have hfin:=jI Hy.out (.int .i64 0) (.int .i64 (r.rev+1)) (.string ⟨#[]⟩) (.slice none 0 0);obtain⟨e0,e1,e2,e3⟩:=aY hfin;have iB:=ah (bf.base (b:=w.heap.size) (Nat.le_of_lt (by have:=dK.out;omega)) (qG He.out hne (.int .i64 0) (.int .i64 (r.rev+1)) (.string ⟨#[]⟩) (.slice none 0 0)));have iH:=ah (qA oL.out Hy.out (by decide) (.int .i64 0) (.int .i64 (r.rev+1)) (.string ⟨#[]⟩) (.slice none 0 0));have aU:=ah (jG (g:=(w.heap.size+1)) eH.out (by omega) (.int .i64 0) (.int .i64 (r.rev+1)) (.string ⟨#[]⟩) (.slice none 0 0));have gV:=ah (uD (nI V w.heap.size) (g:=w.heap.size+1) (by simp[Value.ownBlock]) (.int .i64 0) (.int .i64 (r.rev+1)) (.string ⟨#[]⟩) (.slice none 0 0));clear hfin hne;go_wp2_with fail;refine bodyPost_ret (v:=.tuple #[.slice (some ⟨g,0,none⟩) n dP,.agg #[(.int .i64 0),(.int .i64 (r.rev+1)),(.string ⟨#[]⟩),(.slice none 0 0)]]) (by simp[results,Tryz.results27,go_sem,e0,e1,e2,e3]) rfl ⟨_,l2,(.slice none 0 0),by rw[HE.out];rfl,iB.out,by rw[HE.out];exact g_.out,iH.out,by rw[HE.out];exact gV.out,aU.out⟩
def KG:Nat→ByteArray
 |0=>⟨#[97]⟩|1=>⟨#[98]⟩|2=>⟨#[97,98]⟩|_=>⟨#[98,111,98]⟩
def NQ:Nat→ByteArray
 |0=>⟨#[]⟩|1=>⟨#[49]⟩|2=>⟨#[50]⟩|3=>⟨#[0]⟩|4=>⟨#[122,122]⟩|_=>⟨#[57]⟩
def Ru (k:Nat):ByteArray:=KG (k % 4)++NQ (k / 4)
def KW (z:Int):ByteArray:=Ru (f_ z 24)
theorem ao1 {j:Nat} (h:j<[Value.string ⟨#[97]⟩,.string ⟨#[98]⟩,.string ⟨#[97,98]⟩,.string ⟨#[98,111,98]⟩].length):[Value.string ⟨#[97]⟩,.string ⟨#[98]⟩,.string ⟨#[97,98]⟩,.string ⟨#[98,111,98]⟩][j]= .string (KG j):=by
 have h4:j<4:=h;rcases(by omega:j=0∨j=1∨j=2∨j=3)with rfl|rfl|rfl|rfl<;>rfl
theorem atH {j:Nat} (h:j<[Value.string ⟨#[]⟩,.string ⟨#[49]⟩,.string ⟨#[50]⟩,.string ⟨#[0]⟩,.string ⟨#[122,122]⟩,.string ⟨#[57]⟩].length):[Value.string ⟨#[]⟩,.string ⟨#[49]⟩,.string ⟨#[50]⟩,.string ⟨#[0]⟩,.string ⟨#[122,122]⟩,.string ⟨#[57]⟩][j]= .string (NQ j):=by
 have h6:j<6:=h;rcases(by omega:j=0∨j=1∨j=2∨j=3∨j=4∨j=5)with rfl|rfl|rfl|rfl|rfl|rfl<;>rfl
theorem ao0 {j:Nat} (h:j<4):(#[Value.string ⟨#[97]⟩,.string ⟨#[98]⟩,.string ⟨#[97,98]⟩,.string ⟨#[98,111,98]⟩]:Array Value)[j]? =some (.string (KG j)):=by
 rcases(by omega:j=0∨j=1∨j=2∨j=3)with rfl|rfl|rfl|rfl<;>rfl
theorem atG {j:Nat} (h:j<6):(#[Value.string ⟨#[]⟩,.string ⟨#[49]⟩,.string ⟨#[50]⟩,.string ⟨#[0]⟩,.string ⟨#[122,122]⟩,.string ⟨#[57]⟩]:Array Value)[j]? =some (.string (NQ j)):=by
 rcases(by omega:j=0∨j=1∨j=2∨j=3∨j=4∨j=5)with rfl|rfl|rfl|rfl|rfl|rfl<;>rfl
theorem afp (j:Nat):1≤(KG j).size∧(KG j).size≤3:=by
 rcases(by omega:j=0∨j=1∨j=2∨3≤j)with rfl|rfl|rfl|h
 ·decide
 ·decide
 ·decide
 ·obtain⟨k,rfl⟩:∃k,j=k+3:=⟨j-3,by omega⟩;show 1≤(⟨#[98,111,98]⟩:ByteArray).size∧(⟨#[98,111,98]⟩:ByteArray).size≤3
  decide
theorem ahO (j:Nat):(NQ j).size≤2:=by
 rcases(by omega:j=0∨j=1∨j=2∨j=3∨j=4∨5≤j)with rfl|rfl|rfl|rfl|rfl|h
 ·decide
 ·decide
 ·decide
 ·decide
 ·decide
 ·obtain⟨k,rfl⟩:∃k,j=k+5:=⟨j-5,by omega⟩;show(⟨#[57]⟩:ByteArray).size≤2
  decide
theorem aqb (k:Nat):1≤(Ru k).size∧(Ru k).size≤5:=by
 unfold Ru;have h1:=afp (k % 4);have h2:=ahO (k / 4);rw[ByteArray.size_append];omega
theorem aqf (z:Int) (hz:(Lit.int .i64 z).wf=true) (w:World):
  Calls Tryz.prog 81 #[.int .i64 z] w fun e w'=>e= .returned (.string (KW z))∧Below w.heap.size w w':=by
 have q:=Ns z 24 (by omega) (by omega) hz w;have hk:f_ z 24<24:=by have:=uz z 24 (by omega);omega
 obtain⟨R,hR⟩:∃R,KW z=R:=⟨_,rfl⟩;rw[hR];unfold KW Ru at hR;generalize f_ z 24=k at*;have HR:=ah hR;clear hR;have e1:((k:Int)).tmod 4=((k % 4:Nat):Int):=by rw[Int.tmod_eq_emod_of_nonneg (by omega)];omega
 have e2:((k:Int)).tdiv 4=((k / 4:Nat):Int):=by rw[Int.tdiv_eq_ediv_of_nonneg (by omega)];omega
 have e3:IntKind.i64.wrap ((k % 4:Nat):Int)=((k % 4:Nat):Int):=IntWalk.i64_in _ (by omega);have e4:IntKind.i64.wrap ((k / 4:Nat):Int)=((k / 4:Nat):Int):=IntWalk.i64_in _ (by omega);have h4:k % 4<4:=by omega
 have h6:k / 4<6:=by omega
 have f1:=ao0 h4;have f2:=atG h6;have f3:=@ao1 (k % 4);have f4:=@atH (k / 4);have hs:∀W:World,(Op.stringOp .add (KG (k % 4)) (NQ (k / 4))).run Tryz.prog W= .ok (.string R) W:=fun W=>by
  rw[←HR.out];exact V_ (by have:=afp (k % 4);have:=ahO (k / 4);omega) W
 generalize k % 4=j at*;generalize k / 4=i at*;generalize KG j=a at*;generalize NQ i=b at*;have g1:decide ((j:Int)<0)=false:=decide_eq_false (by omega);have g2:decide ((4:Int)≤(j:Int))=false:=decide_eq_false (by omega);have g3:decide ((i:Int)<0)=false:=decide_eq_false (by omega);have g4:decide ((6:Int)≤(i:Int))=false:=decide_eq_false (by omega);have g5:(j:Int)<4:=by omega
 have g6:(i:Int)<6:=by omega
 have g7:(0:Int)≤(j:Int):=by omega
 have g8:(0:Int)≤(i:Int):=by omega
 go_enter Tryz.func81,Tryz.ntmps81;go_wp2_with fail
 ((with_reducible refine q.mono ?_);rintro e W_ ⟨rfl,rfl⟩)
 go_wp2_with fail;go_region
 all_goals
  go_wp2_with fail;go_ret;exact⟨rfl,by first|exact((ak _ _).alloc (by simp) _).drew|exact jL ((ak _ _).alloc (by simp) _) _|exact(ak _ _).alloc (by simp) _⟩
def qX:Nat→ByteArray
 |0=>⟨#[]⟩|1=>⟨#[120]⟩|2=>⟨#[121,121]⟩|_=>⟨#[118,97,108,117,101]⟩
def qF:Nat→ByteArray
 |0=>⟨#[]⟩|1=>⟨#[110]⟩|_=>⟨#[110,111,116,101]⟩
def jC:Nat→ByteArray
 |0=>⟨#[]⟩|1=>⟨#[98]⟩|2=>⟨#[98,111,98]⟩|_=>⟨#[97,98,49]⟩
def kZ (a:Nat→Int):aX:=
 let k:=f_ (a 0) 6
 ⟨1+(k:Int),if k=5∧f_ (a 4) 3=0 then⟨#[]⟩else KW (a 1),if k=1∨k=3 then qX (f_ (a 2) 4)else⟨#[]⟩,(f_ (a 3) 4:Nat),if k=5 then jC (f_ (a 2) 4)else⟨#[]⟩,if k=4 then((f_ (a 2) 50:Nat):Int)else 0,if k=4 then qF (f_ (a 4) 3)else⟨#[]⟩⟩
abbrev aoP (a:Nat→Int):Value:=.agg #[.int .i64 (a 0),.int .i64 (a 1),.int .i64 (a 2),.int .i64 (a 3),.int .i64 (a 4)]
theorem auO {j:Nat} (h:j<[Value.string ⟨#[]⟩,Value.string ⟨#[120]⟩,Value.string ⟨#[121,121]⟩,Value.string ⟨#[118,97,108,117,101]⟩].length):[Value.string ⟨#[]⟩,Value.string ⟨#[120]⟩,Value.string ⟨#[121,121]⟩,Value.string ⟨#[118,97,108,117,101]⟩][j]= .string (qX j):=by
 have h4:j<4:=h;rcases(by omega:j=0∨j=1∨j=2∨j=3)with rfl|rfl|rfl|rfl<;>rfl
theorem auN {j:Nat} (h:j<4):(#[Value.string ⟨#[]⟩,Value.string ⟨#[120]⟩,Value.string ⟨#[121,121]⟩,Value.string ⟨#[118,97,108,117,101]⟩]:Array Value)[j]? =some (.string (qX j)):=by
 rcases(by omega:j=0∨j=1∨j=2∨j=3)with rfl|rfl|rfl|rfl<;>rfl
theorem aqF {j:Nat} (h:j<[Value.string ⟨#[]⟩,Value.string ⟨#[110]⟩,Value.string ⟨#[110,111,116,101]⟩].length):[Value.string ⟨#[]⟩,Value.string ⟨#[110]⟩,Value.string ⟨#[110,111,116,101]⟩][j]= .string (qF j):=by
 have h4:j<3:=h;rcases(by omega:j=0∨j=1∨j=2)with rfl|rfl|rfl<;>rfl
theorem aqE {j:Nat} (h:j<3):(#[Value.string ⟨#[]⟩,Value.string ⟨#[110]⟩,Value.string ⟨#[110,111,116,101]⟩]:Array Value)[j]? =some (.string (qF j)):=by
 rcases(by omega:j=0∨j=1∨j=2)with rfl|rfl|rfl<;>rfl
theorem ae7 {j:Nat} (h:j<[Value.string ⟨#[]⟩,Value.string ⟨#[98]⟩,Value.string ⟨#[98,111,98]⟩,Value.string ⟨#[97,98,49]⟩].length):[Value.string ⟨#[]⟩,Value.string ⟨#[98]⟩,Value.string ⟨#[98,111,98]⟩,Value.string ⟨#[97,98,49]⟩][j]= .string (jC j):=by
 have h4:j<4:=h;rcases(by omega:j=0∨j=1∨j=2∨j=3)with rfl|rfl|rfl|rfl<;>rfl
theorem ae6 {j:Nat} (h:j<4):(#[Value.string ⟨#[]⟩,Value.string ⟨#[98]⟩,Value.string ⟨#[98,111,98]⟩,Value.string ⟨#[97,98,49]⟩]:Array Value)[j]? =some (.string (jC j)):=by
 rcases(by omega:j=0∨j=1∨j=2∨j=3)with rfl|rfl|rfl|rfl<;>rfl
theorem K5 {W:World} {g:Nat} {b0 b1 b2 b3 b4 b5 b6:Value} (h:aj W g (.cells #[b0,b1,b2,b3,b4,b5,b6] 29 (0,0))) (o:aX):
  fH ((((((((W).setCell ⟨g,0,none⟩ (.int .i64 o.kind)).setCell ⟨g,1,none⟩ (.string o.key)).setCell ⟨g,2,none⟩ (.string o.value)).setCell ⟨g,3,none⟩ (.int .i64 o.rev)).setCell ⟨g,4,none⟩ (.string o.upto)).setCell ⟨g,5,none⟩ (.int .i64 o.life)).setCell ⟨g,6,none⟩ (.string o.note)) g o:=by
 have h0:=aj.set h 0 (.int .i64 o.kind) #[.int .i64 o.kind,b1,b2,b3,b4,b5,b6] rfl;have h1:=aj.set h0 1 (.string o.key) #[.int .i64 o.kind,.string o.key,b2,b3,b4,b5,b6] rfl;have h2:=aj.set h1 2 (.string o.value) #[.int .i64 o.kind,.string o.key,.string o.value,b3,b4,b5,b6] rfl;have h3:=aj.set h2 3 (.int .i64 o.rev) #[.int .i64 o.kind,.string o.key,.string o.value,.int .i64 o.rev,b4,b5,b6] rfl;have h4:=aj.set h3 4 (.string o.upto) #[.int .i64 o.kind,.string o.key,.string o.value,.int .i64 o.rev,.string o.upto,b5,b6] rfl;have h5:=aj.set h4 5 (.int .i64 o.life) #[.int .i64 o.kind,.string o.key,.string o.value,.int .i64 o.rev,.string o.upto,.int .i64 o.life,b6] rfl;exact aj.set h5 6 (.string o.note) _ rfl
theorem Below.seven {w W:World} {B g:Nat} (h:Below B w W) (hg:B≤g) (x0 x1 x2 x3 x4 x5 x6:Value):Below B w ((((((((W).setCell ⟨g,0,none⟩ x0).setCell ⟨g,1,none⟩ x1).setCell ⟨g,2,none⟩ x2).setCell ⟨g,3,none⟩ x3).setCell ⟨g,4,none⟩ x4).setCell ⟨g,5,none⟩ x5).setCell ⟨g,6,none⟩ x6):=
 ((((((h.setCell (p:=⟨g,0,none⟩) hg _).setCell (p:=⟨g,1,none⟩) hg _).setCell (p:=⟨g,2,none⟩) hg _).setCell (p:=⟨g,3,none⟩) hg _).setCell (p:=⟨g,4,none⟩) hg _).setCell (p:=⟨g,5,none⟩) hg _).setCell (p:=⟨g,6,none⟩) hg _
theorem aq8 (a:Nat→Int) (ha:∀j,j<5→(Lit.int .i64 (a j)).wf=true) (w:World):
  Calls Tryz.prog 37 #[aoP a] w fun e w'=>e= .returned (gU (kZ a))∧Below w.heap.size w w':=by
 have hbw:Below w.heap.size w ((w.alloc (.cells #[.int .i64 (a 0),.int .i64 (a 1),.int .i64 (a 2),.int .i64 (a 3),.int .i64 (a 4)] 73)).alloc (.cells #[.int .i64 0,.string ⟨#[]⟩,.string ⟨#[]⟩,.int .i64 0,.string ⟨#[]⟩,.int .i64 0,.string ⟨#[]⟩] 29)):=(ak _ _).alloc (by simp) _;have hraw:aj ((w.alloc (.cells #[.int .i64 (a 0),.int .i64 (a 1),.int .i64 (a 2),.int .i64 (a 3),.int .i64 (a 4)] 73)).alloc (.cells #[.int .i64 0,.string ⟨#[]⟩,.string ⟨#[]⟩,.int .i64 0,.string ⟨#[]⟩,.int .i64 0,.string ⟨#[]⟩] 29)) w.heap.size (.cells #[.int .i64 (a 0),.int .i64 (a 1),.int .i64 (a 2),.int .i64 (a 3),.int .i64 (a 4)] 73 (0,0)):=aj.below (aj.new w (.cells #[.int .i64 (a 0),.int .i64 (a 1),.int .i64 (a 2),.int .i64 (a 3),.int .i64 (a 4)] 73)) (ak _ _);have hres:aj ((w.alloc (.cells #[.int .i64 (a 0),.int .i64 (a 1),.int .i64 (a 2),.int .i64 (a 3),.int .i64 (a 4)] 73)).alloc (.cells #[.int .i64 0,.string ⟨#[]⟩,.string ⟨#[]⟩,.int .i64 0,.string ⟨#[]⟩,.int .i64 0,.string ⟨#[]⟩] 29)) (w.heap.size+1) (.cells #[.int .i64 0,.string ⟨#[]⟩,.string ⟨#[]⟩,.int .i64 0,.string ⟨#[]⟩,.int .i64 0,.string ⟨#[]⟩] 29 (0,0)):=by have h:=aj.new (w.alloc (.cells #[.int .i64 (a 0),.int .i64 (a 1),.int .i64 (a 2),.int .i64 (a 3),.int .i64 (a 4)] 73)) (.cells #[.int .i64 0,.string ⟨#[]⟩,.string ⟨#[]⟩,.int .i64 0,.string ⟨#[]⟩,.int .i64 0,.string ⟨#[]⟩] 29);rw[World.size_alloc]at h;exact h
 obtain⟨W1,hW1⟩:=aQ ((w.alloc (.cells #[.int .i64 (a 0),.int .i64 (a 1),.int .i64 (a 2),.int .i64 (a 3),.int .i64 (a 4)] 73)).alloc (.cells #[.int .i64 0,.string ⟨#[]⟩,.string ⟨#[]⟩,.int .i64 0,.string ⟨#[]⟩,.int .i64 0,.string ⟨#[]⟩] 29));rw[hW1]at hbw hraw hres;have Z0:=ah (aj.cell hraw 0);have Z1:=ah (aj.cell hraw 1);have Z2:=ah (aj.cell hraw 2);have Z3:=ah (aj.cell hraw 3);have Z4:=ah (aj.cell hraw 4);simp only[aM]at Z0 Z1 Z2 Z3 Z4;have afO:=aj.lt hraw;have JY:=ah hres;clear hres;have Tt:=ah hraw;clear hraw;have bU:=ah hbw;clear hbw;have HW1:=ah hW1;clear hW1;obtain⟨R,hR⟩:∃R,kZ a=R:=⟨_,rfl⟩;rw[hR];unfold kZ at hR;simp only at hR;have q0:=fun W=>Ns (a 0) 6 (by omega) (by omega) (ha 0 (by omega)) W;have q3:=fun W=>Ns (a 3) 4 (by omega) (by omega) (ha 3 (by omega)) W;have qk:=fun W=>aqf (a 1) (ha 1 (by omega)) W;have q2a:=fun W=>Ns (a 2) 4 (by omega) (by omega) (ha 2 (by omega)) W;have q2b:=fun W=>Ns (a 2) 50 (by omega) (by omega) (ha 2 (by omega)) W;have q4:=fun W=>Ns (a 4) 3 (by omega) (by omega) (ha 4 (by omega)) W;have hp:f_ (a 0) 6<6:=by have:=uz (a 0) 6 (by omega);omega
 have h2:f_ (a 2) 4<4:=by have:=uz (a 2) 4 (by omega);omega
 have h4:f_ (a 4) 3<3:=by have:=uz (a 4) 3 (by omega);omega
 generalize f_ (a 0) 6=p at*;generalize f_ (a 3) 4=r at*;generalize KW (a 1)=K1 at*;generalize f_ (a 2) 4=v at*;generalize f_ (a 2) 50=y at*;generalize f_ (a 4) 3=z at*;have HR:=ah hR;clear hR;have hwp:IntKind.i64.wrap (1+(p:Int))=1+(p:Int):=IntWalk.i64_in _ (by omega);generalize hB:w.heap.size=B at*;have dO:=ah hB;clear hB;have hlt:B<W1.heap.size:=afO;go_enter Tryz.func37,Tryz.ntmps37;go_upto_region 1 with fail;rw[HW1.out,dO.out];clear HW1;go_cut [3] (fun s wx=>∃g:Nat,s= .pointer (some ⟨g,0,none⟩)∧W1.heap.size≤g∧fH wx g (⟨1+(p:Int),K1,⟨#[]⟩,(r:Int),⟨#[]⟩,0,⟨#[]⟩⟩:aX)∧Below W1.heap.size W1 wx)
 case first=>
  refine wp_region_noPanic ?_;refine wp_region_held_drew (S:=(fun W=>Below W1.heap.size W1 W)) (by kernel_rfl) ((Below.refl _ _).drew) (fun hHeld=>?_);refine ay 0 ?_;refine ay 1 ?_ (hy:=fun w hSw=>by((try dsimp only at hSw);have xc:=(hSw.cell (p:=⟨B,0,none⟩) hlt).trans Z0.out;go_simp;(try with_reducible rfl)));refine ay 4 ?_;refine ay 5 ?_ (hy:=fun w hSw=>by((try dsimp only at hSw);have xc:=(hSw.cell (p:=⟨B,1,none⟩) hlt).trans Z1.out;go_simp;(try with_reducible rfl)));refine ay 7 ?_;refine ay 8 ?_ (hy:=fun w hSw=>by((try dsimp only at hSw);have xc:=(hSw.cell (p:=⟨B,3,none⟩) hlt).trans Z3.out;go_simp;(try with_reducible rfl)));refine wM 2 11 (fun K hK=>?_) fun K hK=>?_
  ·go_simp
   ((with_reducible refine(q0 _).mono ?_);rintro e w' ⟨rfl,rfl⟩)
   refine hK.out _ _ (hHeld) fun hHeld=>?_;clear hK K;refine ay 3 ?_;refine wM 6 11 (fun K hK=>?_) fun K hK=>?_
   ·go_simp
    ((with_reducible refine(qk _).mono ?_);rintro e w' ⟨rfl,bq⟩)
    refine hK.out _ _ (aA hHeld bq) fun hHeld=>?_;clear hK K;refine wM 9 11 (fun K hK=>?_) fun K hK=>?_
    ·go_simp
     ((with_reducible refine(q3 _).mono ?_);rintro e w' ⟨rfl,rfl⟩)
     refine hK.out _ _ (hHeld) fun hHeld=>?_;clear hK K;refine ay 10 ?_;have hgL:=aj.new w' (.cells (aO ((⟨1+(p:Int),K1,⟨#[]⟩,(r:Int),⟨#[]⟩,0,⟨#[]⟩⟩:aX))) 29);have hbL:Below W1.heap.size W1 (w'.alloc (.cells (aO ((⟨1+(p:Int),K1,⟨#[]⟩,(r:Int),⟨#[]⟩,0,⟨#[]⟩⟩:aX))) 29)):=hHeld.alloc hHeld.size _;have hsL:=hHeld.size;refine bH 11 fun K hK=>?_;go_simp;refine hK.out _ _ (hHeld.alloc hHeld.size _) fun hHeld=>?_;clear hK K;refine bH 12 fun K hK=>?_;go_simp;refine hK.out _ _ (hbL) fun hHeld=>?_;clear hK K;refine wpAnyH_done (by kernel_rfl) ?_ _;refine NoPanic.normal ?_;go_wp2_with fail;go_meet;exact⟨_,rfl,hsL,hgL,hHeld⟩
    ·go_simp;have hgL:=aj.new w' (.cells (aO ((⟨1+(p:Int),K1,⟨#[]⟩,(r:Int),⟨#[]⟩,0,⟨#[]⟩⟩:aX))) 29);have hbL:Below W1.heap.size W1 (w'.alloc (.cells (aO ((⟨1+(p:Int),K1,⟨#[]⟩,(r:Int),⟨#[]⟩,0,⟨#[]⟩⟩:aX))) 29)):=hHeld.alloc hHeld.size _;have hsL:=hHeld.size;refine hK.out _ _ (hHeld.alloc hHeld.size _) fun hHeld=>?_;clear hK K;refine bH 9 fun K hK=>?_;go_simp
     ((with_reducible refine(q3 _).mono ?_);rintro e w' ⟨rfl,rfl⟩)
     refine hK.out _ _ (hHeld) fun hHeld=>?_;clear hK K;refine ay 10 ?_;refine bH 12 fun K hK=>?_;go_simp;refine hK.out _ _ (hbL) fun hHeld=>?_;clear hK K;refine wpAnyH_done (by kernel_rfl) ?_ _;refine NoPanic.normal ?_;go_wp2_with fail;go_meet;exact⟨_,rfl,hsL,hgL,hHeld⟩
   ·go_simp;refine hK.out _ _ (hHeld.alloc hHeld.size _) fun hHeld=>?_;clear hK K;have hgA:aj ((W1.alloc (.cells #[.int .i64 0,.string ⟨#[]⟩,.string ⟨#[]⟩,.int .i64 0,.string ⟨#[]⟩,.int .i64 0,.string ⟨#[]⟩] 29)).drew) W1.heap.size (.cells #[.int .i64 0,.string ⟨#[]⟩,.string ⟨#[]⟩,.int .i64 0,.string ⟨#[]⟩,.int .i64 0,.string ⟨#[]⟩] 29 (0,0)):=aj.drew (aj.new W1 (.cells #[.int .i64 0,.string ⟨#[]⟩,.string ⟨#[]⟩,.int .i64 0,.string ⟨#[]⟩,.int .i64 0,.string ⟨#[]⟩] 29));have gG:=ah hgA;clear hgA;refine bH 6 fun K hK=>?_;go_simp
    ((with_reducible refine(qk _).mono ?_);rintro e w' ⟨rfl,bq⟩)
    have HG:=ah (aj.below gG.out bq);refine hK.out _ _ (aA hHeld bq) fun hHeld=>?_;clear hK K;refine bH 9 fun K hK=>?_;go_simp
    ((with_reducible refine(q3 _).mono ?_);rintro e w' ⟨rfl,rfl⟩)
    refine hK.out _ _ (hHeld) fun hHeld=>?_;clear hK K;refine ay 10 ?_;have hz:=HG.out;obtain⟨z0,z1,z2,z3,z4,z5,z6⟩:=Fv hz;obtain⟨f0,f1,f2,f3,f4,f5,f6⟩:=Kv hz;refine bH 12 fun K hK=>?_;go_simp;refine hK.out _ _ (Below.seven hHeld (Nat.le_refl _) _ _ _ _ _ _ _) fun hHeld=>?_;clear hK K;refine wpAnyH_done (by kernel_rfl) ?_ _;refine NoPanic.normal ?_;go_wp2_with fail;go_meet;exact⟨W1.heap.size,rfl,Nat.le_refl _,K5 hz (⟨1+(p:Int),K1,⟨#[]⟩,(r:Int),⟨#[]⟩,0,⟨#[]⟩⟩:aX),hHeld⟩
  ·go_simp;refine hK.out _ _ (hHeld.alloc hHeld.size _) fun hHeld=>?_;clear hK K;have hgA:aj ((W1.alloc (.cells #[.int .i64 0,.string ⟨#[]⟩,.string ⟨#[]⟩,.int .i64 0,.string ⟨#[]⟩,.int .i64 0,.string ⟨#[]⟩] 29)).drew) W1.heap.size (.cells #[.int .i64 0,.string ⟨#[]⟩,.string ⟨#[]⟩,.int .i64 0,.string ⟨#[]⟩,.int .i64 0,.string ⟨#[]⟩] 29 (0,0)):=aj.drew (aj.new W1 (.cells #[.int .i64 0,.string ⟨#[]⟩,.string ⟨#[]⟩,.int .i64 0,.string ⟨#[]⟩,.int .i64 0,.string ⟨#[]⟩] 29));have gG:=ah hgA;clear hgA;refine bH 2 fun K hK=>?_;go_simp
   ((with_reducible refine(q0 _).mono ?_);rintro e w' ⟨rfl,rfl⟩)
   refine hK.out _ _ (hHeld) fun hHeld=>?_;clear hK K;refine ay 3 ?_;refine bH 6 fun K hK=>?_;go_simp
   ((with_reducible refine(qk _).mono ?_);rintro e w' ⟨rfl,bq⟩)
   have HG:=ah (aj.below gG.out bq);refine hK.out _ _ (aA hHeld bq) fun hHeld=>?_;clear hK K;refine bH 9 fun K hK=>?_;go_simp
   ((with_reducible refine(q3 _).mono ?_);rintro e w' ⟨rfl,rfl⟩)
   refine hK.out _ _ (hHeld) fun hHeld=>?_;clear hK K;refine ay 10 ?_;have hz:=HG.out;obtain⟨z0,z1,z2,z3,z4,z5,z6⟩:=Fv hz;obtain⟨f0,f1,f2,f3,f4,f5,f6⟩:=Kv hz;refine bH 12 fun K hK=>?_;go_simp;refine hK.out _ _ (Below.seven hHeld (Nat.le_refl _) _ _ _ _ _ _ _) fun hHeld=>?_;clear hK K;refine wpAnyH_done (by kernel_rfl) ?_ _;refine NoPanic.normal ?_;go_wp2_with fail;go_meet;exact⟨W1.heap.size,rfl,Nat.le_refl _,K5 hz (⟨1+(p:Int),K1,⟨#[]⟩,(r:Int),⟨#[]⟩,0,⟨#[]⟩⟩:aX),hHeld⟩
 case rest=>
  obtain⟨g,rfl,hge,hgo,hbx⟩:=hcut;obtain⟨kz,hkz⟩:∃kz,1+(p:Int)=kz:=⟨_,rfl⟩;rw[hkz]at hgo HR;have A_:=ah hkz;clear hkz hwp;have gu:=ah (aj.below JY.out hbx);have HRW:=ah (aj.below Tt.out hbx);have hbw2:Below w.heap.size w wc:=by have h:=bU.out;rw[←dO.out]at h;exact aA h hbx
  have HB2:=ah hbw2;clear hbw2;have Gv:=ah hgo;clear hgo;have hlr:B+1<W1.heap.size:=aj.lt JY.out;have hgB:B+1<g:=by omega
  clear Z0 Z1 Z2 Z3 Z4 JY Tt bU afO hbx hge hlt;obtain⟨c0,c1,c2,c3,c4,c5,c6⟩:=Gv.out.cells;simp only at c0 c1 c2 c3 c4 c5 c6
  by_cases k13:p=1∨p=3
  ·have HE:Hid (R=⟨kz,K1,qX v,r,⟨#[]⟩,0,⟨#[]⟩⟩):=by
    show R=_;rw[←HR.out,if_neg (by omega),if_pos k13,if_neg (by omega),if_neg (by omega),if_neg (by omega)]
   have e24:(kz==2)=true∨(kz==2)=false∧(kz==4)=true:=by
    have:=A_.out;rcases k13 with rfl|rfl
    ·left;simp;omega
    ·right;constructor<;>simp<;>omega
   have E24:=ah e24;clear e24 k13;rcases E24.out with e2|⟨e2,e4⟩
   all_goals
    go_upto_region 5 with fail;have f3:=@auO v;have hbX:Below wc.heap.size wc (wc.alloc (.cells #[.string ⟨#[]⟩,.string ⟨#[120]⟩,.string ⟨#[121,121]⟩,.string ⟨#[118,97,108,117,101]⟩] 9)):=ak _ _;have Da:=aj.new wc (.cells #[.string ⟨#[]⟩,.string ⟨#[120]⟩,.string ⟨#[121,121]⟩,.string ⟨#[118,97,108,117,101]⟩] 9);obtain⟨X,hX⟩:∃X,(wc.alloc (.cells #[.string ⟨#[]⟩,.string ⟨#[120]⟩,.string ⟨#[121,121]⟩,.string ⟨#[118,97,108,117,101]⟩] 9))=X:=⟨_,rfl⟩;rw[hX]at hbX Da;have dB:=ah (fH.below Gv.out hbX);have E5:=ah (aj.below HRW.out hbX);have JZ:=ah (aj.below gu.out hbX);have HB3:=ah (aA HB2.out hbX);have r2:=aj.cell E5.out 2;have x0:=aj.cell Da v;simp only[aM]at r2;rw[show(#[Value.string ⟨#[]⟩,.string ⟨#[120]⟩,.string ⟨#[121,121]⟩,.string ⟨#[118,97,108,117,101]⟩]:Array Value)[v]? =some (.string (qX v))from auN h2]at x0;have hv0:(0:Int)≤(v:Int):=by omega
    have hv4:(v:Int)<4:=by omega
    obtain⟨d0,d1,d2,d3,d4,d5,d6⟩:=dB.out.cells;have fz:=fH.frozen dB.out 2;clear c0 c1 c2 c3 c4 c5 c6;go_wp2_with fail
    ((with_reducible refine(q2a _).mono ?_);rintro e W_ ⟨rfl,rfl⟩)
    go_upto_region 13 with fail;have hs5:fH (X.setCell ⟨g,2,none⟩ (.string (qX v))) g ⟨kz,K1,qX v,r,⟨#[]⟩,0,⟨#[]⟩⟩:=aj.set dB.out 2 (.string (qX v)) _ rfl;have iQ:=aj.far JZ.out (show B+1≠g by omega) 2 (.string (qX v));have hb5:=HB3.out.setCell (p:=⟨g,2,none⟩) (show w.heap.size≤g by have:=dO.out;omega) (.string (qX v));obtain⟨V,hV⟩:∃V,X.setCell ⟨g,2,none⟩ (.string (qX v))=V:=⟨_,rfl⟩;rw[hV]at hs5 iQ hb5 ⊢;clear hV hX d0 d1 d2 d3 d4 d5 d6 fz;obtain⟨c0,c1,c2,c3,c4,c5,c6⟩:=hs5.cells;simp only at c0 c1 c2 c3 c4 c5 c6;obtain⟨z0,z1,z2,z3,z4,z5,z6⟩:=Fv iQ;obtain⟨f0,f1,f2,f3,f4,f5,f6⟩:=Kv iQ;have hfin:=K5 iQ ((⟨kz,K1,qX v,r,⟨#[]⟩,0,⟨#[]⟩⟩:aX));obtain⟨e0,e1,e2,e3,e4,e5,e6⟩:=hfin.cells;simp only at e0 e1 e2 e3 e4 e5 e6;have aU:=ah (Below.seven (g:=B+1) hb5 (by have:=dO.out;omega) (.int .i64 ((⟨kz,K1,qX v,r,⟨#[]⟩,0,⟨#[]⟩⟩:aX)).kind) (.string ((⟨kz,K1,qX v,r,⟨#[]⟩,0,⟨#[]⟩⟩:aX)).key) (.string ((⟨kz,K1,qX v,r,⟨#[]⟩,0,⟨#[]⟩⟩:aX)).value) (.int .i64 ((⟨kz,K1,qX v,r,⟨#[]⟩,0,⟨#[]⟩⟩:aX)).rev) (.string ((⟨kz,K1,qX v,r,⟨#[]⟩,0,⟨#[]⟩⟩:aX)).upto) (.int .i64 ((⟨kz,K1,qX v,r,⟨#[]⟩,0,⟨#[]⟩⟩:aX)).life) (.string ((⟨kz,K1,qX v,r,⟨#[]⟩,0,⟨#[]⟩⟩:aX)).note));clear hfin;go_wp2_with fail;refine bodyPost_ret (v:=gU ((⟨kz,K1,qX v,r,⟨#[]⟩,0,⟨#[]⟩⟩:aX))) (by simp[gU,results,Tryz.results37,go_sem,e0,e1,e2,e3,e4,e5,e6]) rfl ⟨by rw[HE.out],by have h:=aU.out;rw[dO.out]at h;exact h⟩
  ·by_cases k4:p=4
   ·have HE:Hid (R=⟨kz,K1,⟨#[]⟩,r,⟨#[]⟩,(y:Int),qF z⟩):=by
     show R=_;rw[←HR.out,if_neg (by omega),if_neg k13,if_neg (by omega),if_pos k4,if_pos k4]
    have e2:(kz==2)=false:=by have:=A_.out;simp;omega
    have e4:(kz==4)=false:=by have:=A_.out;simp;omega
    have e5:(kz==5)=true:=by have:=A_.out;simp;omega
    clear k13 k4;go_upto_region 7 with fail;have r2:=aj.cell HRW.out 2;simp only[aM]at r2;have fz:=fH.frozen Gv.out 5;go_wp2_with fail
    ((with_reducible refine(q2b _).mono ?_);rintro e W_ ⟨rfl,rfl⟩)
    go_upto_region 8 with fail;have hsg:fH (wc.setCell ⟨g,5,none⟩ (.int .i64 (y:Int))) g ⟨kz,K1,⟨#[]⟩,r,⟨#[]⟩,(y:Int),⟨#[]⟩⟩:=aj.set Gv.out 5 (.int .i64 (y:Int)) _ rfl;have hsr:=aj.far gu.out (show B+1≠g by omega) 5 (.int .i64 (y:Int));have hsw:=aj.far HRW.out (show B≠g by omega) 5 (.int .i64 (y:Int));have hsb:=HB2.out.setCell (p:=⟨g,5,none⟩) (show w.heap.size≤g by have:=dO.out;omega) (.int .i64 (y:Int));obtain⟨V3,hV3⟩:∃V,wc.setCell ⟨g,5,none⟩ (.int .i64 (y:Int))=V:=⟨_,rfl⟩;rw[hV3]at hsg hsr hsw hsb ⊢;have dB:=ah hsg;clear hsg;have JZ:=ah hsr;clear hsr;have E5:=ah hsw;clear hsw;have HB3:=ah hsb;clear hsb;clear hV3;clear r2 fz c0 c1 c2 c3 c4 c5 c6;have f3:=@aqF z;have hbX:Below V3.heap.size V3 (V3.alloc (.cells #[.string ⟨#[]⟩,.string ⟨#[110]⟩,.string ⟨#[110,111,116,101]⟩] 9)):=ak _ _;have Da:=aj.new V3 (.cells #[.string ⟨#[]⟩,.string ⟨#[110]⟩,.string ⟨#[110,111,116,101]⟩] 9);obtain⟨X,hX⟩:∃X,(V3.alloc (.cells #[.string ⟨#[]⟩,.string ⟨#[110]⟩,.string ⟨#[110,111,116,101]⟩] 9))=X:=⟨_,rfl⟩;rw[hX]at hbX Da;have wY:=ah (fH.below dB.out hbX);have J4:=ah (aj.below E5.out hbX);have J2:=ah (aj.below JZ.out hbX);have cB:=ah (aA HB3.out hbX);have r4:=aj.cell J4.out 4;have x0:=aj.cell Da z;simp only[aM]at r4;rw[show(#[Value.string ⟨#[]⟩,.string ⟨#[110]⟩,.string ⟨#[110,111,116,101]⟩]:Array Value)[z]? =some (.string (qF z))from aqE h4]at x0;have hv0:(0:Int)≤(z:Int):=by omega
    have hv4:(z:Int)<3:=by omega
    obtain⟨d0,d1,d2,d3,d4,d5,d6⟩:=wY.out.cells;simp only at d0 d1 d2 d3 d4 d5 d6;have fz:=fH.frozen wY.out 6;go_wp2_with fail
    ((with_reducible refine(q4 _).mono ?_);rintro e W_ ⟨rfl,rfl⟩)
    go_upto_region 13 with fail;clear r4 fz d0 d1 d2 d3 d4 d5 d6 hX;have hsg:fH (X.setCell ⟨g,6,none⟩ (.string (qF z))) g ⟨kz,K1,⟨#[]⟩,r,⟨#[]⟩,(y:Int),qF z⟩:=aj.set wY.out 6 (.string (qF z)) _ rfl;have hsr:=aj.far J2.out (show B+1≠g by omega) 6 (.string (qF z));have hsw:=aj.far J4.out (show B≠g by omega) 6 (.string (qF z));have hsb:=cB.out.setCell (p:=⟨g,6,none⟩) (show w.heap.size≤g by have:=dO.out;omega) (.string (qF z));obtain⟨V5,Iz⟩:∃V,X.setCell ⟨g,6,none⟩ (.string (qF z))=V:=⟨_,rfl⟩;rw[Iz]at hsg hsr hsw hsb ⊢;have p8:=ah hsg;clear hsg;have J3:=ah hsr;clear hsr;have akx:=ah hsw;clear hsw;have eH:=ah hsb;clear hsb;clear Iz;obtain⟨c0,c1,c2,c3,c4,c5,c6⟩:=p8.out.cells;simp only at c0 c1 c2 c3 c4 c5 c6;obtain⟨z0,z1,z2,z3,z4,z5,z6⟩:=Fv J3.out;obtain⟨f0,f1,f2,f3,f4,f5,f6⟩:=Kv J3.out;have hfin:=K5 J3.out ((⟨kz,K1,⟨#[]⟩,r,⟨#[]⟩,(y:Int),qF z⟩:aX));obtain⟨e0,e1,e2,e3,e4,e5,e6⟩:=hfin.cells;simp only at e0 e1 e2 e3 e4 e5 e6;have aU:=ah (Below.seven (g:=B+1) eH.out (by have:=dO.out;omega) (.int .i64 ((⟨kz,K1,⟨#[]⟩,r,⟨#[]⟩,(y:Int),qF z⟩:aX)).kind) (.string ((⟨kz,K1,⟨#[]⟩,r,⟨#[]⟩,(y:Int),qF z⟩:aX)).key) (.string ((⟨kz,K1,⟨#[]⟩,r,⟨#[]⟩,(y:Int),qF z⟩:aX)).value) (.int .i64 ((⟨kz,K1,⟨#[]⟩,r,⟨#[]⟩,(y:Int),qF z⟩:aX)).rev) (.string ((⟨kz,K1,⟨#[]⟩,r,⟨#[]⟩,(y:Int),qF z⟩:aX)).upto) (.int .i64 ((⟨kz,K1,⟨#[]⟩,r,⟨#[]⟩,(y:Int),qF z⟩:aX)).life) (.string ((⟨kz,K1,⟨#[]⟩,r,⟨#[]⟩,(y:Int),qF z⟩:aX)).note));clear hfin;go_wp2_with fail;refine bodyPost_ret (v:=gU ((⟨kz,K1,⟨#[]⟩,r,⟨#[]⟩,(y:Int),qF z⟩:aX))) (by simp[gU,results,Tryz.results37,go_sem,e0,e1,e2,e3,e4,e5,e6]) rfl ⟨by rw[HE.out],by have h:=aU.out;rw[dO.out]at h;exact h⟩
   ·by_cases k5:p=5
    ·have e2:(kz==2)=false:=by have:=A_.out;simp;omega
     have e4:(kz==4)=false:=by have:=A_.out;simp;omega
     have e5:(kz==5)=false:=by have:=A_.out;simp;omega
     have e6:(kz==6)=true:=by have:=A_.out;simp;omega
     by_cases hz:z=0
     ·have HE:Hid (R=⟨kz,⟨#[]⟩,⟨#[]⟩,r,jC v,0,⟨#[]⟩⟩):=by
       show R=_;rw[←HR.out,if_pos ⟨k5,hz⟩,if_neg k13,if_pos k5,if_neg k4,if_neg k4]
      have ez:((z:Int)==0)=true:=by simp;omega
      clear k13 k4 k5 hz;go_upto_region 10 with fail;have f3:=@ae7 v;have hbX:Below wc.heap.size wc (wc.alloc (.cells #[.string ⟨#[]⟩,.string ⟨#[98]⟩,.string ⟨#[98,111,98]⟩,.string ⟨#[97,98,49]⟩] 9)):=ak _ _;have Da:=aj.new wc (.cells #[.string ⟨#[]⟩,.string ⟨#[98]⟩,.string ⟨#[98,111,98]⟩,.string ⟨#[97,98,49]⟩] 9);obtain⟨X,hX⟩:∃X,(wc.alloc (.cells #[.string ⟨#[]⟩,.string ⟨#[98]⟩,.string ⟨#[98,111,98]⟩,.string ⟨#[97,98,49]⟩] 9))=X:=⟨_,rfl⟩;rw[hX]at hbX Da;have dB:=ah (fH.below Gv.out hbX);have E5:=ah (aj.below HRW.out hbX);have JZ:=ah (aj.below gu.out hbX);have HB3:=ah (aA HB2.out hbX);have r2:=aj.cell E5.out 2;have x0:=aj.cell Da v;simp only[aM]at r2;rw[show(#[Value.string ⟨#[]⟩,.string ⟨#[98]⟩,.string ⟨#[98,111,98]⟩,.string ⟨#[97,98,49]⟩]:Array Value)[v]? =some (.string (jC v))from ae6 h2]at x0;have hv0:(0:Int)≤(v:Int):=by omega
      have hv4:(v:Int)<4:=by omega
      clear c0 c1 c2 c3 c4 c5 c6;obtain⟨d0,d1,d2,d3,d4,d5,d6⟩:=dB.out.cells;simp only at d0 d1 d2 d3 d4 d5 d6;have fz:=fH.frozen dB.out 4;go_wp2_with fail
      ((with_reducible refine(q2a _).mono ?_);rintro e W_ ⟨rfl,rfl⟩)
      go_upto_region 11 with fail;clear r2 fz d0 d1 d2 d3 d4 d5 d6 hX;have hsg:fH (X.setCell ⟨g,4,none⟩ (.string (jC v))) g ⟨kz,K1,⟨#[]⟩,r,jC v,0,⟨#[]⟩⟩:=aj.set dB.out 4 (.string (jC v)) _ rfl;have hsr:=aj.far JZ.out (show B+1≠g by omega) 4 (.string (jC v));have hsw:=aj.far E5.out (show B≠g by omega) 4 (.string (jC v));have hsb:=HB3.out.setCell (p:=⟨g,4,none⟩) (show w.heap.size≤g by have:=dO.out;omega) (.string (jC v));obtain⟨V4,Iy⟩:∃V,X.setCell ⟨g,4,none⟩ (.string (jC v))=V:=⟨_,rfl⟩;rw[Iy]at hsg hsr hsw hsb ⊢;have wY:=ah hsg;clear hsg;have J2:=ah hsr;clear hsr;have J4:=ah hsw;clear hsw;have cB:=ah hsb;clear hsb;clear Iy;have r4:=aj.cell J4.out 4;simp only[aM]at r4;obtain⟨d0,d1,d2,d3,d4,d5,d6⟩:=wY.out.cells;simp only at d0 d1 d2 d3 d4 d5 d6;have fz:=fH.frozen wY.out 1;go_wp2_with fail
      ((with_reducible refine(q4 _).mono ?_);rintro e W_ ⟨rfl,rfl⟩)
      go_upto_region 13 with fail;clear r4 fz d0 d1 d2 d3 d4 d5 d6;have hsg:fH (V4.setCell ⟨g,1,none⟩ (.string ⟨#[]⟩)) g ⟨kz,⟨#[]⟩,⟨#[]⟩,r,jC v,0,⟨#[]⟩⟩:=aj.set wY.out 1 (.string ⟨#[]⟩) _ rfl;have hsr:=aj.far J2.out (show B+1≠g by omega) 1 (.string ⟨#[]⟩);have hsw:=aj.far J4.out (show B≠g by omega) 1 (.string ⟨#[]⟩);have hsb:=cB.out.setCell (p:=⟨g,1,none⟩) (show w.heap.size≤g by have:=dO.out;omega) (.string ⟨#[]⟩);obtain⟨V5,Iz⟩:∃V,V4.setCell ⟨g,1,none⟩ (.string ⟨#[]⟩)=V:=⟨_,rfl⟩;rw[Iz]at hsg hsr hsw hsb ⊢;have p8:=ah hsg;clear hsg;have J3:=ah hsr;clear hsr;have akx:=ah hsw;clear hsw;have eH:=ah hsb;clear hsb;clear Iz;obtain⟨c0,c1,c2,c3,c4,c5,c6⟩:=p8.out.cells;simp only at c0 c1 c2 c3 c4 c5 c6;obtain⟨z0,z1,z2,z3,z4,z5,z6⟩:=Fv J3.out;obtain⟨f0,f1,f2,f3,f4,f5,f6⟩:=Kv J3.out;have hfin:=K5 J3.out ((⟨kz,⟨#[]⟩,⟨#[]⟩,r,jC v,0,⟨#[]⟩⟩:aX));obtain⟨e0,e1,e2,e3,e4,e5,e6⟩:=hfin.cells;simp only at e0 e1 e2 e3 e4 e5 e6;have aU:=ah (Below.seven (g:=B+1) eH.out (by have:=dO.out;omega) (.int .i64 ((⟨kz,⟨#[]⟩,⟨#[]⟩,r,jC v,0,⟨#[]⟩⟩:aX)).kind) (.string ((⟨kz,⟨#[]⟩,⟨#[]⟩,r,jC v,0,⟨#[]⟩⟩:aX)).key) (.string ((⟨kz,⟨#[]⟩,⟨#[]⟩,r,jC v,0,⟨#[]⟩⟩:aX)).value) (.int .i64 ((⟨kz,⟨#[]⟩,⟨#[]⟩,r,jC v,0,⟨#[]⟩⟩:aX)).rev) (.string ((⟨kz,⟨#[]⟩,⟨#[]⟩,r,jC v,0,⟨#[]⟩⟩:aX)).upto) (.int .i64 ((⟨kz,⟨#[]⟩,⟨#[]⟩,r,jC v,0,⟨#[]⟩⟩:aX)).life) (.string ((⟨kz,⟨#[]⟩,⟨#[]⟩,r,jC v,0,⟨#[]⟩⟩:aX)).note));clear hfin;go_wp2_with fail;refine bodyPost_ret (v:=gU ((⟨kz,⟨#[]⟩,⟨#[]⟩,r,jC v,0,⟨#[]⟩⟩:aX))) (by simp[gU,results,Tryz.results37,go_sem,e0,e1,e2,e3,e4,e5,e6]) rfl ⟨by rw[HE.out],by have h:=aU.out;rw[dO.out]at h;exact h⟩
     ·have HE:Hid (R=⟨kz,K1,⟨#[]⟩,r,jC v,0,⟨#[]⟩⟩):=by
       show R=_;rw[←HR.out,if_neg (fun h=>hz h.2),if_neg k13,if_pos k5,if_neg k4,if_neg k4]
      have ez:((z:Int)==0)=false:=by simp;omega
      clear k13 k4 k5 hz;go_upto_region 10 with fail;have f3:=@ae7 v;have hbX:Below wc.heap.size wc (wc.alloc (.cells #[.string ⟨#[]⟩,.string ⟨#[98]⟩,.string ⟨#[98,111,98]⟩,.string ⟨#[97,98,49]⟩] 9)):=ak _ _;have Da:=aj.new wc (.cells #[.string ⟨#[]⟩,.string ⟨#[98]⟩,.string ⟨#[98,111,98]⟩,.string ⟨#[97,98,49]⟩] 9);obtain⟨X,hX⟩:∃X,(wc.alloc (.cells #[.string ⟨#[]⟩,.string ⟨#[98]⟩,.string ⟨#[98,111,98]⟩,.string ⟨#[97,98,49]⟩] 9))=X:=⟨_,rfl⟩;rw[hX]at hbX Da;have dB:=ah (fH.below Gv.out hbX);have E5:=ah (aj.below HRW.out hbX);have JZ:=ah (aj.below gu.out hbX);have HB3:=ah (aA HB2.out hbX);have r2:=aj.cell E5.out 2;have x0:=aj.cell Da v;simp only[aM]at r2;rw[show(#[Value.string ⟨#[]⟩,.string ⟨#[98]⟩,.string ⟨#[98,111,98]⟩,.string ⟨#[97,98,49]⟩]:Array Value)[v]? =some (.string (jC v))from ae6 h2]at x0;have hv0:(0:Int)≤(v:Int):=by omega
      have hv4:(v:Int)<4:=by omega
      clear c0 c1 c2 c3 c4 c5 c6;obtain⟨d0,d1,d2,d3,d4,d5,d6⟩:=dB.out.cells;simp only at d0 d1 d2 d3 d4 d5 d6;have fz:=fH.frozen dB.out 4;go_wp2_with fail
      ((with_reducible refine(q2a _).mono ?_);rintro e W_ ⟨rfl,rfl⟩)
      go_upto_region 11 with fail;clear r2 fz d0 d1 d2 d3 d4 d5 d6 hX;have hsg:fH (X.setCell ⟨g,4,none⟩ (.string (jC v))) g ⟨kz,K1,⟨#[]⟩,r,jC v,0,⟨#[]⟩⟩:=aj.set dB.out 4 (.string (jC v)) _ rfl;have hsr:=aj.far JZ.out (show B+1≠g by omega) 4 (.string (jC v));have hsw:=aj.far E5.out (show B≠g by omega) 4 (.string (jC v));have hsb:=HB3.out.setCell (p:=⟨g,4,none⟩) (show w.heap.size≤g by have:=dO.out;omega) (.string (jC v));obtain⟨V4,Iy⟩:∃V,X.setCell ⟨g,4,none⟩ (.string (jC v))=V:=⟨_,rfl⟩;rw[Iy]at hsg hsr hsw hsb ⊢;have wY:=ah hsg;clear hsg;have J2:=ah hsr;clear hsr;have J4:=ah hsw;clear hsw;have cB:=ah hsb;clear hsb;clear Iy;have r4:=aj.cell J4.out 4;simp only[aM]at r4;obtain⟨d0,d1,d2,d3,d4,d5,d6⟩:=wY.out.cells;simp only at d0 d1 d2 d3 d4 d5 d6;have fz:=fH.frozen wY.out 1;go_wp2_with fail
      ((with_reducible refine(q4 _).mono ?_);rintro e W_ ⟨rfl,rfl⟩)
      go_upto_region 13 with fail;clear r4 fz d0 d1 d2 d3 d4 d5 d6;obtain⟨c0,c1,c2,c3,c4,c5,c6⟩:=wY.out.cells;simp only at c0 c1 c2 c3 c4 c5 c6;obtain⟨z0,z1,z2,z3,z4,z5,z6⟩:=Fv J2.out;obtain⟨f0,f1,f2,f3,f4,f5,f6⟩:=Kv J2.out;have hfin:=K5 J2.out ((⟨kz,K1,⟨#[]⟩,r,jC v,0,⟨#[]⟩⟩:aX));obtain⟨e0,e1,e2,e3,e4,e5,e6⟩:=hfin.cells;simp only at e0 e1 e2 e3 e4 e5 e6;have aU:=ah (Below.seven (g:=B+1) cB.out (by have:=dO.out;omega) (.int .i64 ((⟨kz,K1,⟨#[]⟩,r,jC v,0,⟨#[]⟩⟩:aX)).kind) (.string ((⟨kz,K1,⟨#[]⟩,r,jC v,0,⟨#[]⟩⟩:aX)).key) (.string ((⟨kz,K1,⟨#[]⟩,r,jC v,0,⟨#[]⟩⟩:aX)).value) (.int .i64 ((⟨kz,K1,⟨#[]⟩,r,jC v,0,⟨#[]⟩⟩:aX)).rev) (.string ((⟨kz,K1,⟨#[]⟩,r,jC v,0,⟨#[]⟩⟩:aX)).upto) (.int .i64 ((⟨kz,K1,⟨#[]⟩,r,jC v,0,⟨#[]⟩⟩:aX)).life) (.string ((⟨kz,K1,⟨#[]⟩,r,jC v,0,⟨#[]⟩⟩:aX)).note));clear hfin;go_wp2_with fail;refine bodyPost_ret (v:=gU ((⟨kz,K1,⟨#[]⟩,r,jC v,0,⟨#[]⟩⟩:aX))) (by simp[gU,results,Tryz.results37,go_sem,e0,e1,e2,e3,e4,e5,e6]) rfl ⟨by rw[HE.out],by have h:=aU.out;rw[dO.out]at h;exact h⟩
    ·have HE:Hid (R=⟨kz,K1,⟨#[]⟩,r,⟨#[]⟩,0,⟨#[]⟩⟩):=by
      show R=_;rw[←HR.out,if_neg (fun h=>k5 h.1),if_neg k13,if_neg k5,if_neg k4,if_neg k4]
     have e2:(kz==2)=false:=by have:=A_.out;simp;omega
     have e4:(kz==4)=false:=by have:=A_.out;simp;omega
     have e5:(kz==5)=false:=by have:=A_.out;simp;omega
     have e6:(kz==6)=false:=by have:=A_.out;simp;omega
     clear k13 k4 k5 c0 c1 c2 c3 c4 c5 c6;have hg0:=Gv.out;obtain⟨c0,c1,c2,c3,c4,c5,c6⟩:=hg0.cells;go_upto_region 13 with fail;clear c0 c1 c2 c3 c4 c5 c6;obtain⟨c0,c1,c2,c3,c4,c5,c6⟩:=Gv.out.cells;simp only at c0 c1 c2 c3 c4 c5 c6;obtain⟨z0,z1,z2,z3,z4,z5,z6⟩:=Fv gu.out;obtain⟨f0,f1,f2,f3,f4,f5,f6⟩:=Kv gu.out;have hfin:=K5 gu.out ((⟨kz,K1,⟨#[]⟩,r,⟨#[]⟩,0,⟨#[]⟩⟩:aX));obtain⟨e0,e1,e2,e3,e4,e5,e6⟩:=hfin.cells;simp only at e0 e1 e2 e3 e4 e5 e6;have aU:=ah (Below.seven (g:=B+1) HB2.out (by have:=dO.out;omega) (.int .i64 ((⟨kz,K1,⟨#[]⟩,r,⟨#[]⟩,0,⟨#[]⟩⟩:aX)).kind) (.string ((⟨kz,K1,⟨#[]⟩,r,⟨#[]⟩,0,⟨#[]⟩⟩:aX)).key) (.string ((⟨kz,K1,⟨#[]⟩,r,⟨#[]⟩,0,⟨#[]⟩⟩:aX)).value) (.int .i64 ((⟨kz,K1,⟨#[]⟩,r,⟨#[]⟩,0,⟨#[]⟩⟩:aX)).rev) (.string ((⟨kz,K1,⟨#[]⟩,r,⟨#[]⟩,0,⟨#[]⟩⟩:aX)).upto) (.int .i64 ((⟨kz,K1,⟨#[]⟩,r,⟨#[]⟩,0,⟨#[]⟩⟩:aX)).life) (.string ((⟨kz,K1,⟨#[]⟩,r,⟨#[]⟩,0,⟨#[]⟩⟩:aX)).note));clear hfin;go_wp2_with fail;refine bodyPost_ret (v:=gU ((⟨kz,K1,⟨#[]⟩,r,⟨#[]⟩,0,⟨#[]⟩⟩:aX))) (by simp[gU,results,Tryz.results37,go_sem,e0,e1,e2,e3,e4,e5,e6]) rfl ⟨by rw[HE.out],by have h:=aU.out;rw[dO.out]at h;exact h⟩
theorem abj (z:Int) (n:Int) (h:0<n):(f_ z n:Int)<n:=uz z n h
theorem aqe (z:Int):1≤(KW z).size∧(KW z).size≤5:=aqb _
theorem auR (j:Nat):(qX j).size≤5:=by
 rcases(by omega:j=0∨j=1∨j=2∨3≤j)with rfl|rfl|rfl|h
 ·decide
 ·decide
 ·decide
 ·obtain⟨k,rfl⟩:∃k,j=k+3:=⟨j-3,by omega⟩;show(⟨#[118,97,108,117,101]⟩:ByteArray).size≤5
  decide
theorem aqG (j:Nat):(qF j).size≤4:=by
 rcases(by omega:j=0∨j=1∨2≤j)with rfl|rfl|h
 ·decide
 ·decide
 ·obtain⟨k,rfl⟩:∃k,j=k+2:=⟨j-2,by omega⟩;show(⟨#[110,111,116,101]⟩:ByteArray).size≤4
  decide
theorem aox (j:Nat):(jC j).size≤3:=by
 rcases(by omega:j=0∨j=1∨j=2∨3≤j)with rfl|rfl|rfl|h
 ·decide
 ·decide
 ·decide
 ·obtain⟨k,rfl⟩:∃k,j=k+3:=⟨j-3,by omega⟩;show(⟨#[97,98,49]⟩:ByteArray).size≤3
  decide
theorem agO (a:Nat→Int):(1≤(kZ a).kind∧(kZ a).kind≤6)∧(kZ a).key.size≤5∧((kZ a).key.size=0→(kZ a).kind=6)∧(kZ a).value.size≤5∧(0≤(kZ a).rev∧(kZ a).rev<4)∧(kZ a).upto.size≤3∧(0≤(kZ a).life∧(kZ a).life<50)∧(kZ a).note.size≤4:=by
 have p0:=abj (a 0) 6 (by omega);have p3:=abj (a 3) 4 (by omega);have p2:=abj (a 2) 50 (by omega);have k1:=aqe (a 1);unfold kZ;simp only;refine⟨⟨by omega,by omega⟩,?_,?_,?_,⟨by omega,by omega⟩,?_,?_,?_⟩
 ·split
  ·show(0:Nat)≤5;omega
  ·exact k1.2
 ·intro h;split at h
  ·rename_i h2;have:=h2.1;omega
  ·omega
 ·split
  ·exact auR _
  ·show(0:Nat)≤5;omega
 ·split
  ·exact aox _
  ·show(0:Nat)≤3;omega
 ·split
  ·exact⟨by omega,by omega⟩
  ·exact⟨by omega,by omega⟩
 ·split
  ·exact aqG _
  ·show(0:Nat)≤4;omega
theorem aq6 (a:Nat→Int):Bo (kZ a):=by
 obtain⟨h1,h2,_,h4,h5,h6,h7,h8⟩:=agO a;exact⟨uE (by omega) (by omega),by omega,by omega,uE (by omega) (by omega),by omega,uE (by omega) (by omega),by omega⟩
theorem agP (a:Nat→Int):dY 2 (kZ a)=0:=by
 obtain⟨h1,h2,h3,h4,h5,h6,h7,h8⟩:=agO a;unfold dY;rw[if_neg,if_neg (by omega)];unfold qY bZ;intro h;rcases h with h|h|h|h|h|h|h|h|h|h|h|h
 ·exact h (.inr rfl)
 all_goals first|omega|exact h.2 (h3 h.1)
def Um:ByteArray:=⟨#[99,97,114,114,105,101,100]⟩
def Ga (i:Nat) (r:au):au:=if i % 3=1 then{ r with extra:=[(9+(i:Int),Um)] }else r
def Js (n i:Nat) (r:au):au:=if i % 5=4∧7<n then{ r with rev:=bZ }else r
def AB (n i:Nat) (r:au):au:=Js n i (Ga i r)
def nJ (n:Nat) (t:List au):Nat→List au
 |0=>t
 |k+1=>(nJ n t k).set k (AB n k (atR (nJ n t k) k))
theorem Wt (n:Nat) (t:List au):∀k,(nJ n t k).length=t.length
 |0=>rfl
 |k+1=>by rw[nJ,List.length_set,Wt n t k]
theorem auC (n i:Nat) (r:au):(AB n i r).key=r.key:=by unfold AB Js Ga;split<;>split<;>rfl
theorem auD {n i:Nat} {r:au} (h:kJ 2 r) (hi:i<20):kJ 2 (AB n i r):=by
 have h1:kJ 2 (Ga i r):=by
  unfold Ga;split
  ·obtain⟨a,b,c,d,e,_⟩:=h;refine⟨a,b,c,d,e,?_⟩;refine qB.2 ⟨Ap.2 ⟨by simp,fun j hj=>?_⟩,?_,fun j hj=>?_⟩
   ·have:j=0:=by simpa using hj
    subst this;rw[qU,Bool.and_eq_true,Vn,decide_eq_true_eq];exact⟨⟨by show(0:Int)<9+(i:Int);omega,by show 9+(i:Int)≤1000000;omega⟩,by show Um.size≤1000;decide⟩
   ·exact Nat.le_trans (aoF _) (by simp)
   ·have:j=0:=by simpa using hj
    subst this;rw[BH];show ¬(1≤9+(i:Int)∧9+(i:Int)≤rW 2);unfold rW;simp;omega
  ·exact h
 unfold AB Js;split
 ·obtain⟨a,b,c,d,e,g⟩:=h1;exact⟨a,b,c,⟨by show(0:Int)≤9007199254740992;decide,by show(9007199254740992:Int)≤9007199254740992;decide⟩,e,g⟩
 ·exact h1
theorem ah3 {n:Nat} {t:List au} (h:iO t):∀k,k≤t.length→iO (nJ n t k)
 |0,_=>h
 |k+1,hk=>by
  have hr:=ah3 (n:=n) h k (by omega);have hl:k<(nJ n t k).length:=by rw[Wt];omega
  exact abx hr hl (auC _ _ _) (auD (hr.at (sK hl)) (by have:=h.2.2;omega))
theorem aew (i:Nat) (h:i<20):kP [(9+(i:Int),Um)]:=fun x hx=>by
 rw[List.mem_singleton]at hx;subst hx;exact⟨uE (by omega) (by omega),by show Um.size≤9223372036854775807;decide⟩
end Go.Proofs.YtodaapcohdpenaaGreat
