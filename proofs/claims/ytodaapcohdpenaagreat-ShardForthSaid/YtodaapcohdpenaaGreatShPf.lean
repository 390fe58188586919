-- eB
import Derived.Test.YtodaapcohdpenaaGreatGSq
import Derived.Test.YtodaapcohdpenaaGreatShPe
import Derived.Test.YtodaapcohdpenaaGreatShPb
import Derived.Test.YtodaapcohdpenaaGreatShParse
namespace Go.Proofs.YtodaapcohdpenaaGreat
open Go.RowKit
set_option linter.unusedSimpArgs false
set_option linter.unusedVariables false
set_option maxHeartbeats 20000000
set_option maxRecDepth 100000
theorem aj.Vu {w w':World} {g b:Nat} {cs:Array Value} {T:TypeId} (h:aj w g (.cells cs T (0,0))) (ho:Lib.OthersKept 5 (some b) w w') (hne:g≠b) (hT:T≠5):aj w' g (.cells cs T (0,0)):=
 ho _ _ h (fun e=>hne (by cases e;rfl)) (fun c fz e=>by injection e with _ e2 _;exact hT e2)
theorem afl {α:Type} (f:α→List UInt8) {b:Nat} {l:List α} (h:∀x∈l,(f x).length≤b) (k:Nat) {K:Nat} (hk:l.length≤K):((l.take k).flatMap f).length≤K*b:=
 Nat.le_trans (KF f (fun x hx=>h x (List.mem_of_mem_take hx))) (Nat.mul_le_mul_right _ (Nat.le_trans (by rw[List.length_take];omega) hk))
theorem afk {α:Type} (f:α→List UInt8) (l:List α) {k:Nat} (h:k<l.length):(l.take (k+1)).flatMap f=(l.take k).flatMap f++f l[k]:=by
 rw[List.take_succ_eq_append_getElem h,List.flatMap_append];simp
theorem amG (v:Int) (s:ShR) (A B:Option Addr) (n cap m cm:Nat) (w:World) (hv:v=1∨v=2) (h:bL w s A n cap B m cm) (hr:fq s):
  Calls Tryz.prog 50 #[.int .i64 v,d_ s (.slice A n cap) (.slice B m cm)] w fun e w'=>e= .returned (.tuple #[.string (bs (encS v s).1),.int .i64 (encS v s).2])∧Below w.heap.size w w':=by
 have ajX:Hid (zJ v s.table→encS v s=([],12)):=fun hl=>by unfold encS;rw[if_neg (fun hn=>hn ⟨hr,hv⟩),if_pos hl]
 have aiI:Hid (¬zJ v s.table→encS v s=(l8 v s++oC v (l8 v s),0)):=ae5 hv hr;generalize encS v s=R at*;obtain⟨fz,hfz⟩:∃z:Int,(if s.frozen=true then 1 else 0)=z:=⟨_,rfl⟩;have sw:=ah hfz;have qfl:=fun W=>aoR s.frozen W;rw[hfz]at qfl;clear hfz;have HV:=ah hv;have HR:=ah hr;have nA:=ah h;have HN:Hid (n=s.table.length∧m=s.cache.length∧n≤20∧m≤8):=⟨h.2.2.1.1,h.2.2.2.1,(h.len hr).1,(h.len hr).2⟩;have b1:Below w.heap.size w (w.alloc (.cells (aS s (.slice A n cap) (.slice B m cm)) 26)):=ak _ _;have b2:Below w.heap.size w ((w.alloc (.cells (aS s (.slice A n cap) (.slice B m cm)) 26)).alloc (.cells #[.pointer none,.slice none 0 0,.int .i64 v] 130)):=b1.alloc (by simp) _;have hx:aj ((w.alloc (.cells (aS s (.slice A n cap) (.slice B m cm)) 26)).alloc (.cells #[.pointer none,.slice none 0 0,.int .i64 v] 130)) w.heap.size (.cells (aS s (.slice A n cap) (.slice B m cm)) 26 (0,0)):=aj.below (aj.new w (.cells (aS s (.slice A n cap) (.slice B m cm)) 26)) (ak _ _);have hg:lC w.heap.size (w.heap.size+1) [] v ((w.alloc (.cells (aS s (.slice A n cap) (.slice B m cm)) 26)).alloc (.cells #[.pointer none,.slice none 0 0,.int .i64 v] 130)):=.inl ⟨Nat.le_succ _,.slice none 0 0,by
  have h_:=World.alloc_heap_new (w.alloc (.cells (aS s (.slice A n cap) (.slice B m cm)) 26)) (.cells #[.pointer none,.slice none 0 0,.int .i64 v] 130);rw[World.size_alloc]at h_;exact h_,World.ownsRowF_nil _ _ _ _,by simp[Value.ownBlock]⟩
 obtain⟨W0,hW0⟩:=aQ ((w.alloc (.cells (aS s (.slice A n cap) (.slice B m cm)) 26)).alloc (.cells #[.pointer none,.slice none 0 0,.int .i64 v] 130));rw[hW0]at b2 hx hg;have HX0:=ah hx;clear hx;have Ow:=ah hg;clear hg;have HB0:=ah b2;clear b2 b1 h hr;have EU:Hid (Lib.OthersKept 5 (some (w.heap.size+1)) W0 W0):=Lib.OthersKept.refl _ _ _;have q0:=agx v hv;unfold d_;go_enter Tryz.func50,Tryz.ntmps50;go_upto_region 2 with fail
 try rw[hW0]
 clear hW0;go_wp2_with fail
 ((with_reducible refine(q0 _).mono ?_);rintro e W0b ⟨rfl,rfl⟩)
 clear q0;go_wp2_with fail;refine(UQ w.heap.size (w.heap.size+1) [] v (bs [mo v]) W0 Ow.out (by rw[mR];simp) HB0.out.size).mono ?_;rintro e W1 ⟨rfl,hg1,b1,o1⟩;rw[CB,List.nil_append]at hg1;have nZ:=ah hg1;clear hg1;have HB1:=ah (HB0.out.trans b1);clear b1;have jl:=ah (aj.Vu HX0.out o1 (by omega) (by decide));clear o1 HX0 Ow HB0 EU;have q3:∀(W:World) (q:Nat),lC w.heap.size (w.heap.size+1) [mo v] v W→Cr W q [s.id,s.epoch,fz,(n:Int),(m:Int)]→q≠w.heap.size+1→w.heap.size≤W.heap.size→
   Calls Tryz.prog 93 #[.pointer (some ⟨w.heap.size+1,0,none⟩),.slice (some ⟨q,0,none⟩) 5 5] W (Od w.heap.size (w.heap.size+1) ([mo v]++[s.id,s.epoch,fz,(n:Int),(m:Int)].flatMap jH) v W):=fun W q h1 h2 h3 h4=>by
  have h5:=Vr w.heap.size (w.heap.size+1) q [mo v] v [s.id,s.epoch,fz,(n:Int),(m:Int)] W h1 h2 h3 h4 (fun z hz=>by
   obtain⟨_,_,⟨r1,r2⟩,r3,r4⟩:=HR.out;have mx:bZ=9007199254740992:=rfl;have h6:=HN.out;simp only[List.mem_cons,List.not_mem_nil,or_false]at hz;rcases hz with rfl|rfl|rfl|rfl|rfl
   ·omega
   ·omega
   ·have:=sw.out;split at this<;>omega
   ·omega
   ·omega) (by simp)
  simpa using h5
 have uM:=ah q3;clear q3;go_upto_region 3 with fail;go_cut [] (fun wx=>lC w.heap.size (w.heap.size+1) ([mo v]++[s.id,s.epoch,fz,(n:Int),(m:Int)].flatMap jH) v wx∧Below w.heap.size w wx∧aj wx w.heap.size (.cells (aS s (.slice A n cap) (.slice B m cm)) 26 (0,0)))
 case first=>
  refine wp_region_noPanic ?_;refine Du (S:=(fun W_=>aj W_ w.heap.size (.cells (aS s (.slice A n cap) (.slice B m cm)) 26 (0,0))∧lC w.heap.size (w.heap.size+1) [mo v] v W_∧Below w.heap.size w W_∧W1.heap.size≤W_.heap.size)) [14] (by kernel_rfl) (⟨jl.out.drew,nZ.out.drew,HB1.out.drew,Nat.le_refl _⟩) (fun hHeld=>?_);refine dA 0 ?_;refine dA 1 ?_ (hy:=fun w hSw=>by((try dsimp only at hSw);(have s0:=aj.cell hSw.1 0);simp only[aM]at s0;go_simp;(try with_reducible rfl)));refine dA 2 ?_;refine dA 3 ?_ (hy:=fun w hSw=>by((try dsimp only at hSw);(have s1:=aj.cell hSw.1 1);simp only[aM]at s1;go_simp;(try with_reducible rfl)));refine dA 4 ?_;refine dA 5 ?_ (hy:=fun w hSw=>by((try dsimp only at hSw);(have s2:=aj.cell hSw.1 2);simp only[aM]at s2;go_simp;(try with_reducible rfl)));refine dA 7 ?_;refine dA 8 ?_ (hy:=fun w hSw=>by((try dsimp only at hSw);(have s3:=aj.cell hSw.1 3);simp only[aM]at s3;go_simp;(try with_reducible rfl)));refine dA 9 ?_;refine dA 10 ?_;refine dA 11 ?_ (hy:=fun w hSw=>by((try dsimp only at hSw);(have s4:=aj.cell hSw.1 4);simp only[aM]at s4;go_simp;(try with_reducible rfl)));refine dA 12 ?_;refine qH 6 fun K hK=>?_;go_simp
  ((with_reducible refine(qfl _).mono ?_);rintro e W2 ⟨rfl,rfl⟩)
  refine hK.out _ _ (hHeld) fun hHeld=>?_;clear hK K;refine qH 13 fun K hK=>?_;go_simp;have hnb:=World.alloc_heap_new W1.drew (.cells #[.int .i64 s.id,.int .i64 s.epoch,.int .i64 fz,.int .i64 (n:Int),.int .i64 (m:Int)] 3);refine hK.out _ _ (⟨aj.below hHeld.1 (ak _ _),lC.below hHeld.2.1 (ak _ _),hHeld.2.2.1.alloc hHeld.2.2.1.size _,Nat.le_trans hHeld.2.2.2 (by simp)⟩) fun hHeld=>?_;clear hK K;refine wQ (rs:=[14]) (by kernel_rfl) (by simp) ?_;refine jA.last rfl (by kernel_rfl) (fun K hK=>?_) jA.nil;rw[if_pos (by rfl)];go_simp
  ((refine(uM.out _ _ hHeld.2.1 hnb (by have h_:=nZ.out.lt.2;intro e_;exact absurd h_ (by rw[←e_];exact Nat.lt_irrefl _)) hHeld.2.2.1.size).mono ?_);rintro e W3 ⟨rfl,hg3,b3,o3⟩)
  have apj:=hHeld.2.2.1.trans b3;have apS:=aj.Vu hHeld.1 o3 (by omega) (by decide);refine hK.out _ _ (trivial) fun hHeld=>?_;clear hK K;refine Dt (by kernel_rfl) ?_ _;refine NoPanic.normal ?_;go_wp2_with fail;go_meet;exact⟨hg3,apj,apS⟩
 case rest=>
  obtain⟨hg2,hb2,hx2⟩:=hcut;have HG2:=ah hg2;clear hg2;have HB2:=ah hb2;clear hb2;have iR:=ah hx2;clear hx2 uM nZ HB1 jl;have JV:Hid (([mo v]++[s.id,s.epoch,fz,(n:Int),(m:Int)].flatMap jH).length≤41):=by
   show _≤_;obtain⟨_,_,⟨r1,r2⟩,r3,r4⟩:=HR.out;have mx:bZ=9007199254740992:=rfl;have h6:=HN.out;have h1:=tu (x:=s.id) (by omega);have h2:=tu (x:=s.epoch) r4;have h3:=tu (x:=fz) (by have:=sw.out;split at this<;>omega);have h4:=tu (x:=(n:Int)) (by omega);have h5:=tu (x:=(m:Int)) (by omega);simp only[List.length_append,List.flatMap_cons,List.flatMap_nil,List.length_nil,List.length_cons];omega
  have acs:Hid (([mo v]++[s.id,s.epoch,fz,(n:Int),(m:Int)].flatMap jH)++s.table.flatMap (oz v)++s.cache.flatMap l9=l8 v s):=by
   show _=_;unfold l8 jH;rw[HN.out.1,HN.out.2.1,←sw.out];simp only[List.flatMap_cons,List.flatMap_nil,List.append_nil,List.append_assoc,List.cons_append,List.nil_append,Int.toNat_natCast]
   cases s.frozen<;>rfl
  generalize([mo v]++[s.id,s.epoch,fz,(n:Int),(m:Int)].flatMap jH)=L0 at*;have xA:Hid (∀k,((s.table.take k).flatMap (oz v)).length≤20*10008):=fun k=>afl (oz v) (fun r hr=>abX (abm HV.out (HR.out.1.1 r hr)).2) k HR.out.1.2.2;have AP:Hid (∀k,((s.cache.take k).flatMap l9).length≤8*100000):=fun k=>afl l9 (fun d hd=>aeY (HR.out.2.1.1 d hd)) k HR.out.2.1.2.2;obtain⟨s0,s1,s2,s3,s4⟩:=aZ iR.out;have hnm:n≤9223372036854775807:=by have:=HN.out;omega
  go_wp2_with fail;clear s0 s1 s2 s3 s4;go_loopw [36] (fun i wy=>∃(k:Nat) (wr:World),wr=wy∧k≤n∧i= .int .i64 k∧lC w.heap.size (w.heap.size+1) (L0++(s.table.take k).flatMap (oz v)) v wr∧Below w.heap.size w wr∧aj wr w.heap.size (.cells (aS s (.slice A n cap) (.slice B m cm)) 26 (0,0))∧∀j,j<k→(nH v (atR s.table j)).2=0) (fun i _=>n-(intOf i).toNat)
  case atStart=>exact⟨0,_,rfl,by omega,rfl,by simpa using HG2.out,HB2.out,iR.out,fun j hj=>by omega⟩
  case round=>
   obtain⟨k,wr,rfl,hk,rfl,hgi,hbw,hxb,hsh⟩:=hrel;have yt:=ah hgi;clear hgi;have bU:=ah hbw;clear hbw;have HXB:=ah hxb;clear hxb;have Yu:=ah hsh;clear hsh
   by_cases hlt:k<n
   ·have HK:Hid (k<s.table.length):=by show k<_;rw[←HN.out.1];exact hlt
    obtain⟨b2,off,hA,hb2,hat⟩:=(gW.below nA.out.2.2.1 bU.out).2.2.2 (by omega);subst hA;obtain⟨E,em,ec,⟨x0,x1,x2,x3,x4,x5⟩,hmc,hfs⟩:=hat k HK.out;have hrr:=HR.out.1.1 (atR s.table k) (sK HK.out);have HS:Hid (L0++(s.table.take k).flatMap (oz v)++oz v (atR s.table k)=L0++(s.table.take (k+1)).flatMap (oz v)):=by
     show _=_;rw[afk _ _ HK.out,List.append_assoc,jw HK.out]
    have ajZ:Hid (atR s.table k∈s.table):=sK HK.out;have hlen:Hid ((L0++(s.table.take k).flatMap (oz v)).length≤300000):=by
     show _≤_;have h1:=xA.out k;have h2:=JV.out;rw[List.length_append];omega
    clear hat;have tX:=ah hfs;clear hfs hmc;have HRR:=ah hrr;clear hrr;have xq:=ah (abm HV.out HRR.out);generalize L0++(s.table.take k).flatMap (oz v)=L at*;have HQ:Hid (∀j,j<k+1→(nH v (atR s.table k)).2=0→(nH v (atR s.table j)).2=0):=fun j hj h0=>by
     rcases(by omega:j<k∨j=k)with h|rfl
     ·exact Yu.out j h
     ·exact h0
    generalize hRK:atR s.table k=r at*;have oW:=ah hRK;clear hRK;have M8:(k:Int)<(n:Int):=by omega
    have HLEN:=hlen;clear hlen;go_upto_region 7 with fail;clear x0 x1 x2 x3 x4 x5 hb2;have hal:Below wr.heap.size wr (wr.alloc (.cells (aC r (.slice E em ec)) 68)):=ak _ _;have hrb:cO (wr.alloc (.cells (aC r (.slice E em ec)) 68)) wr.heap.size r (.slice E em ec):=World.alloc_heap_new wr _;obtain⟨V,hV⟩:=aQ (wr.alloc (.cells (aC r (.slice E em ec)) 68));rw[hV]at hal hrb ⊢;clear hV;obtain⟨y0,y1,y2,y3,y4,y5⟩:=hrb.cells;have LA:=ah (yt.out.below hal);have J9:=ah (aj.below HXB.out hal);have eT:Hid (Below w.heap.size w V):=aA bU.out hal;have q5:=apb w.heap.size (w.heap.size+1) L v r E em ec V HV.out LA.out eT.out.size HRR.out (tX.out.below hal) (by have:=HLEN.out;omega);unfold iL WO at q5;clear hal hrb;obtain⟨z,hz⟩:∃z,(nH v r).2=z:=⟨_,rfl⟩;rw[hz]at q5 xq HQ;have HZ:=ah hz;clear hz;go_wp2_with fail
    ((with_reducible refine q5.mono ?_);rintro e V2 ⟨rfl,hg5,b5,o5⟩)
    clear q5 y0 y1 y2 y3 y4 y5;have p8:=ah hg5;clear hg5;have eH:=ah (eT.out.trans b5);clear b5;have oL:=ah (aj.Vu J9.out o5 (by omega) (by decide));clear o5
    by_cases h0:z=0
    ·subst h0;go_wp2_with fail;go_roundw
     case rel=>
      refine⟨k+1,_,rfl,by omega,by go_num,?_,eH.out,oL.out,fun j hj=>HQ.out j hj (by trivial)⟩;rw[←HS.out];exact p8.out (by trivial)
     case measure=>simp[intOf];omega
    ·have h12:z=12:=by rcases xq.out.1 with h|h;exact absurd h h0;exact h
     subst h12;have HE:Hid (R=([],12)):=ajX.out ⟨r,ajZ.out,by rw[HZ.out];omega⟩;clear h0;go_wp2_with fail;go_ret2;exact⟨by rw[HE.out];rfl,eH.out⟩
   ·have hke:n=k:=by omega
    subst hke;have Tj:Hid (¬zJ v s.table):=fun⟨r,hr,hn⟩=>by
     obtain⟨i,hi,rfl⟩:=List.mem_iff_getElem.1 hr;refine hn ?_;have:=Yu.out i (by rw[HN.out.1];exact hi);rw[jw hi]at this;exact this
    have HE:=ah (aiI.out Tj.out);have hg3:=yt.out;rw[List.take_of_length_le (by have:=HN.out.1;omega)]at hg3;have dB:=ah hg3;clear hg3 yt Yu hlt;have DU:Hid ((L0++s.table.flatMap (oz v)).length≤300000):=by
     show _≤_;have h1:=xA.out s.table.length;rw[List.take_length]at h1;have h2:=JV.out;rw[List.length_append];omega
    generalize L0++s.table.flatMap (oz v)=L3 at*;obtain⟨s0,s1,s2,s3,s4⟩:=aZ HXB.out;have hmm:m≤9223372036854775807:=by have:=HN.out;omega
    go_wp2_with fail;clear s0 s1 s2 s3 s4;go_loopw [49] (fun i wy=>∃(k:Nat) (wq:World),wq=wy∧k≤m∧i= .int .i64 k∧lC w.heap.size (w.heap.size+1) (L3++(s.cache.take k).flatMap l9) v wq∧Below w.heap.size w wq∧aj wq w.heap.size (.cells (aS s (.slice A n cap) (.slice B m cm)) 26 (0,0))) (fun i _=>m-(intOf i).toNat)
    case atStart=>exact⟨0,_,rfl,by omega,rfl,by simpa using dB.out,bU.out,HXB.out⟩
    case round=>
     obtain⟨j,wq,rfl,hj,rfl,hgi,hbw,hxb⟩:=hrel;have yt:=ah hgi;clear hgi;have Xe:=ah hbw;clear hbw;have HXQ:=ah hxb;clear hxb
     by_cases hlt:j<m
     ·have HJ:Hid (j<s.cache.length):=by show j<_;rw[←HN.out.2.1];exact hlt
      obtain⟨b2,off,hA,hb2,hat⟩:=nA.out.2.2.2.2.2.2 (by omega);subst hA;obtain⟨E,em,ec,hdn,hmc,hks⟩:=hat j HJ.out;obtain⟨x0,x1,x2,x3,x4,x5⟩:=hdn.below Xe.out;have hgd:Jz (bg s.cache j):=HR.out.2.1.1 _ (yL HJ.out);have HS:Hid (L3++(s.cache.take j).flatMap l9++l9 (bg s.cache j)=L3++(s.cache.take (j+1)).flatMap l9):=by
       show _=_;rw[afk _ _ HJ.out,List.append_assoc,lZ HJ.out]
      have hlen:Hid ((L3++(s.cache.take j).flatMap l9).length≤2000000):=by
       show _≤_;have h1:=AP.out j;have h2:=DU.out;rw[List.length_append];omega
      clear hat hdn hmc;have DT:=ah hks;clear hks;have Xt:=ah hgd;clear hgd;have HLEN:=hlen;clear hlen;generalize L3++(s.cache.take j).flatMap l9=L at*;generalize bg s.cache j=d at*;have M8:(j:Int)<(m:Int):=by omega
      go_upto_region 14 with fail;clear x0 x1 x2 x3 x4 x5 hb2;have hal:Below wq.heap.size wq (wq.alloc (.cells (aD d (.slice E em ec)) 90)):=ak _ _;have hdb:Jy (wq.alloc (.cells (aD d (.slice E em ec)) 90)) wq.heap.size d (.slice E em ec):=World.alloc_heap_new wq _;obtain⟨V,hV⟩:=aQ (wq.alloc (.cells (aD d (.slice E em ec)) 90));rw[hV]at hal hdb ⊢;clear hV;have y0:=bJ hdb 0;have y1:=bJ hdb 1;have y2:=bJ hdb 2;have y3:=bJ hdb 3;have y4:=bJ hdb 4;have y5:=bJ hdb 5;simp only[aM]at y0 y1 y2 y3 y4 y5;have LA:=ah (yt.out.below hal);have J9:=ah (aj.below HXQ.out hal);have eT:Hid (Below w.heap.size w V):=aA Xe.out hal;have q6:=ao9 w (w.heap.size+1) L v d E em ec V LA.out eT.out Xt.out DT.out (by have:=HLEN.out;omega);rw[HS.out]at q6;clear hal hdb;go_wp2_with fail
      ((with_reducible refine q6.mono ?_);rintro e V2 ⟨rfl,hg5,b5,o5⟩)
      clear q6 y0 y1 y2 y3 y4 y5;have p8:=ah hg5;clear hg5;have eH:=ah (eT.out.trans b5);clear b5;have oL:=ah (aj.Vu J9.out o5 (by omega) (by decide));clear o5;go_wp2_with fail;go_roundw
      case rel=>exact⟨j+1,_,rfl,by omega,by go_num,p8.out,eH.out,oL.out⟩
      case measure=>simp[intOf];omega
     ·have iw:m=j:=by omega
      subst iw;have hg4:=yt.out;rw[List.take_of_length_le (by have:=HN.out.2.1;omega),acs.out]at hg4;have wY:=ah hg4;clear hg4 yt hlt;have DV:Hid ((l8 v s).length≤2000000):=by
       show _≤_;rw[←acs.out,List.length_append];have h1:=AP.out s.cache.length;rw[List.take_length]at h1;have h2:=DU.out;omega
      have GI:Hid (l8 v s≠[]):=by show _≠_;unfold l8;exact List.cons_ne_nil _ _
      generalize l8 v s=Y at*;have q7:=afv w.heap.size (w.heap.size+1) Y v wq wY.out GI.out;go_wp2_with fail
      ((with_reducible refine q7.mono ?_);rintro e V1 ⟨rfl,hg5,b5,o5⟩)
      clear q7;have p8:=ah hg5;clear hg5;have eH:=ah (Xe.out.trans b5);clear b5 o5;have q8:=ae8 v HV.out (bs Y) (by rw[mR];have:=DV.out;omega) V1;rw[CB]at q8;go_wp2_with fail
      ((with_reducible refine q8.mono ?_);rintro e V2 ⟨rfl,b6⟩)
      clear q8;have HG6:=ah (p8.out.below b6);have gM:=ah (aA eH.out b6);clear b6;have hts:(bs (oC v Y)).size≤4:=by rw[mR];unfold oC;split<;>simp[I_]
      have q9:=UQ w.heap.size (w.heap.size+1) Y v (bs (oC v Y)) V2 HG6.out (by have:=DV.out;omega) gM.out.size;rw[CB]at q9;clear hts;go_wp2_with fail
      ((with_reducible refine q9.mono ?_);rintro e V3 ⟨rfl,hg7,b7,o7⟩)
      clear q9;have HG7:=ah hg7;clear hg7;have lM:=ah (gM.out.trans b7);clear b7 o7;have q10:=afv w.heap.size (w.heap.size+1) (Y++oC v Y) v V3 HG7.out (fun e=>GI.out (List.append_eq_nil_iff.1 e).1);go_wp2_with fail
      ((with_reducible refine q10.mono ?_);rintro e V4 ⟨rfl,sU,b8,o8⟩)
      clear q10 sU o8;have lN:=ah (lM.out.trans b8);clear b8;go_wp2_with fail;go_ret2;exact⟨by rw[HE.out];rfl,lN.out⟩
theorem KD:Dx:=fun v s A B n cap m cm w hvw _ h hz=>by
 have bA:Hid (¬(fq s∧(v=1∨v=2))→encS v s=([],1)):=fun h=>by unfold encS;rw[if_pos h]
 have hb:Below w.heap.size w (w.alloc (.cells (aS s (.slice A n cap) (.slice B m cm)) 26)):=ak _ _;have hx:=aj.new w (.cells (aS s (.slice A n cap) (.slice B m cm)) 26);obtain⟨W0,hW0⟩:=aQ (w.alloc (.cells (aS s (.slice A n cap) (.slice B m cm)) 26));rw[hW0]at hb hx;have HX:=ah hx;clear hx;have nA:=ah (h.below hb);clear h;have lu:=ah hz;clear hz;have HB:=ah hb;clear hb;have qv:=aa2 v W0;obtain⟨bv,hbv⟩:∃b,decide (v=1∨v=2)=b:=⟨_,rfl⟩;have eT:Hid (bv=true↔(v=1∨v=2)):=by rw[←hbv];exact decide_eq_true_iff
 rw[hbv]at qv;clear hbv;have qb:(v=1∨v=2)→fq s→∀W,Below W0.heap.size W0 W→Calls Tryz.prog 50 #[.int .i64 v,d_ s (.slice A n cap) (.slice B m cm)] W (fun e w'=>e= .returned (.tuple #[.string (bs (encS v s).1),.int .i64 (encS v s).2])∧Below W.heap.size W w'):=fun h1 h2 W hb=>amG v s A B n cap m cm W h1 (bL.below nA.out hb) h2;have G9:=ah qb;clear qb;generalize encS v s=R at*;unfold d_ at G9 ⊢;go_enter Tryz.func21,Tryz.ntmps21;go_wp2_with fail
 try rw[hW0]
 clear hW0
 ((with_reducible refine qv.mono ?_);rintro e W1 ⟨rfl,b1⟩)
 have jl:=ah (aj.below HX.out b1);have HB1:=ah (aA HB.out b1);have akB:=ah (bL.below nA.out b1);have HW1:=ah b1;clear qv b1
 cases bv with
 |false=>
  have HE:Hid (R=([],1)):=bA.out fun h=>by have:=eT.out.2 h.2;cases this
  go_wp2_with fail;go_ret2;exact⟨by rw[HE.out];rfl,HB1.out⟩
 |true=>
 have q1:=VN s A B n cap m cm W1 akB.out lu.out;unfold d_ at q1;obtain⟨rt,hrt⟩:∃v,rT s=v:=⟨_,rfl⟩;have iC:Hid (rt=true↔fq s):=by rw[←hrt];exact La
 rw[hrt]at q1;clear hrt;obtain⟨x0,x1,x2,x3,x4⟩:=aZ jl.out;go_wp2_with fail
 ((with_reducible refine q1.mono ?_);rintro e W2 ⟨rfl,b2⟩)
 have iR:=ah (aj.below jl.out b2);have HB2:=ah (aA HB1.out b2);have HW2:=ah (aA HW1.out b2);clear q1 b2 x0 x1 x2 x3 x4
 cases rt with
 |false=>
  have HE:Hid (R=([],1)):=bA.out fun h=>by have:=iC.out.2 h.1;cases this
  go_wp2_with fail;go_ret2;exact⟨by rw[HE.out];rfl,HB2.out⟩
 |true=>
 have q2:=G9.out (eT.out.1 (by first|trivial|rfl)) (iC.out.1 (by first|trivial|rfl)) W2 HW2.out;obtain⟨x0,x1,x2,x3,x4⟩:=aZ iR.out;go_wp2_with fail
 ((with_reducible refine q2.mono ?_);rintro e W3 ⟨rfl,b3⟩)
 have HB3:=ah (aA HB2.out b3);clear q2 b3 x0 x1 x2 x3 x4;go_wp2_with fail;go_ret2;exact⟨rfl,HB3.out⟩
end Go.Proofs.YtodaapcohdpenaaGreat
