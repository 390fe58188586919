-- eB
import Derived.Test.YtodaapcohdpenaaGreatGSq
import Derived.Test.YtodaapcohdpenaaGreatShPd
import Derived.Test.YtodaapcohdpenaaGreatGShM
import Derived.Test.YtodaapcohdpenaaGreatGCon
import Derived.Test.YtodaapcohdpenaaGreatRecEncode
namespace Go.Proofs.YtodaapcohdpenaaGreat
open Go.RowKit
set_option linter.unusedSimpArgs false
set_option linter.unusedVariables false
set_option maxHeartbeats 8000000
set_option maxRecDepth 100000
theorem afu {B b:Nat} {l:List UInt8} {ver:Int} {w:World} (h:lC B b l ver w):∃p v,w.heap[b]? =some (.cells #[p,v,.int .i64 ver] 130 (0,0)):=by
 rcases h with⟨_,v,h,_⟩|⟨_,v,h,_⟩
 ·exact⟨_,v,h⟩
 ·exact⟨_,v,h⟩
theorem ah2 {v:Int} {r:au} (hv:v=1∨v=2) (hr:eP 2 r=true):∃q,toR 2 v r=(q,0)∧eP v q=true∧nH v r=nG v q:=by
 rcases hv with rfl|rfl
 ·have hd:ou r=((ou r).1,0):=by
   have:=(UC r).2 hr;rw[←this]
  have ht:toR 2 1 r=ou r:=by
   unfold toR;rw[if_pos ⟨hr,.inl rfl⟩,if_neg (by omega),if_neg (by omega)]
  refine⟨(ou r).1,by rw[ht];exact hd,(down_up hd).2.1,?_⟩;unfold nH;rw[ht]
 ·have ht:toR 2 2 r=(r,0):=by
   unfold toR;rw[if_pos ⟨hr,.inr rfl⟩,if_pos rfl]
  refine⟨r,ht,hr,?_⟩;unfold nH;rw[ht]
theorem Wy {v:Int} {q:au} (h:eP v q=true):zK q:=by
 obtain⟨_,h1,h2,_,h4,_⟩:=qV.1 h;have h5:=aa6.1 h4;unfold Kh at h5;refine⟨by omega,by omega,?_⟩;split at h5<;>omega
theorem abm {v:Int} {r:au} (hv:v=1∨v=2) (hr:eP 2 r=true):((nH v r).2=0∨(nH v r).2=12)∧(nH v r).1.length≤10000:=by
 obtain⟨q,_,hq,he⟩:=ah2 hv hr;rw[he,VB hq];split
 ·exact⟨.inl rfl,by assumption⟩
 ·exact⟨.inr rfl,by simp⟩
def alP (B:Nat) (W0:World) (q:au) (z:Nat) (t5 t6:Value) (wx:World):Prop:=
 ∃g E m c,t5= .pointer (some ⟨g,0,none⟩)∧t6= .int .i64 z∧B≤g∧cO wx g q (.slice E m c)∧m≤c∧dh wx E m q.extra∧NewAt B E∧Below W0.heap.size W0 wx
theorem RV {w:World} {b:Nat} {r0:au} {x0:Value} (h:cO w b r0 x0) (R:au) (s:Value):cO ((((((w.setCell ⟨b,0,none⟩ (.string R.key)).setCell ⟨b,1,none⟩ (.string R.value)).setCell ⟨b,2,none⟩ (.int .i64 R.rev)).setCell ⟨b,3,none⟩ (.int .i64 R.life)).setCell ⟨b,4,none⟩ (.string R.note)).setCell ⟨b,5,none⟩ s) b R s:=
 aj.set (aj.set (aj.set (aj.set (aj.set (aj.set h 0 (.string R.key) #[.string R.key,.string r0.value,.int .i64 r0.rev,.int .i64 r0.life,.string r0.note,x0] rfl) 1 (.string R.value) #[.string R.key,.string R.value,.int .i64 r0.rev,.int .i64 r0.life,.string r0.note,x0] rfl) 2 (.int .i64 R.rev) #[.string R.key,.string R.value,.int .i64 R.rev,.int .i64 r0.life,.string r0.note,x0] rfl) 3 (.int .i64 R.life) #[.string R.key,.string R.value,.int .i64 R.rev,.int .i64 R.life,.string r0.note,x0] rfl) 4 (.string R.note) (aC R x0) rfl) 5 s (aC R s) rfl
def WO (B b:Nat) (l:List UInt8) (ver:Int) (r:au) (w:World) (e:Ending) (w':World):Prop:=
 e= .returned (.int .i64 (nH ver r).2)∧((nH ver r).2=0→lC B b (l++oz ver r) ver w')∧Below B w w'∧Lib.OthersKept 5 (some b) w w'
theorem apb (B b:Nat) (l:List UInt8) (ver:Int) (r:au) (A:Option Addr) (n cap:Nat) (w:World) (hv:ver=1∨ver=2) (h:lC B b l ver w) (hB:B≤w.heap.size) (hr:eP 2 r=true) (hf:dh w A n r.extra) (hl:l.length≤9000000):
  Calls Tryz.prog 95 #[.pointer (some ⟨b,0,none⟩),iL r (.slice A n cap)] w (WO B b l ver r w):=by
 have HRW:=ah (Wy hr);obtain⟨q,hq1,hq2,hq3⟩:=ah2 hv hr;have Yk:=ah (Wy hq2);have xq:=ah (abm hv hr);unfold WO oz;rw[hq3]at xq ⊢;have HV:=ah hv;have hal:Below w.heap.size w (w.alloc (.cells (aC r (.slice A n cap)) 68)):=ak _ _;have hbx:cO (w.alloc (.cells (aC r (.slice A n cap)) 68)) w.heap.size r (.slice A n cap):=World.alloc_heap_new w _;obtain⟨W0,hW0⟩:=aQ (w.alloc (.cells (aC r (.slice A n cap)) 68));rw[hW0]at hal hbx;have HF:=ah (hf.below hal);clear hf;have HG:=ah (h.below hal);clear h;have vQ:=ah hbx;clear hbx;have HB0:Hid (Below B w W0):=hal.mono hB;have EU:Hid (Lib.OthersKept 5 (some b) w W0):=H6 hal;have gP:Hid (w.heap.size≤W0.heap.size):=hal.size;have zn:=ah hB;clear hB hal;have gN:=ah hl;clear hl;have qt:∀W,Below W0.heap.size W0 W→Calls Tryz.prog 145 #[.int .i64 2,.int .i64 ver,iL r (.slice A n cap)] W (Ki W (q,0)):=fun W hb=>by
  have:=aev 2 ver r A n cap W HRW.out (HF.out.below hb);rw[hq1]at this;exact this
 clear hq1 hq2 hq3 hr;have qe:∀(E:Option Addr) (m c:Nat) (W:World),dh W E m q.extra→Calls Tryz.prog 146 #[.int .i64 ver,iL q (.slice E m c)] W (fun e w'=>e= .returned (.tuple #[.string (bs (nG ver q).1),.int .i64 (nG ver q).2])∧Below W.heap.size W w'):=fun E m c W hfe=>arN ver q E m c W Yk.out hfe;generalize nG ver q=RE at*;obtain⟨X,z⟩:=RE;simp only at qe xq ⊢;unfold iL at qt qe ⊢;go_enter Tryz.func95,Tryz.ntmps95;go_upto_region 1 with fail
 try rw[hW0]
 clear hW0;go_cut [5,6] (fun t5 t6 wx=>alP W0.heap.size W0 q 0 t5 t6 wx)
 case first=>
  refine wp_region_noPanic ?_;refine wp_region_held_drew (S:=(fun W_=>Below W0.heap.size W0 W_)) (by kernel_rfl) ((Below.refl _ _).drew) (fun hHeld=>?_);refine ay 0 ?_;refine ay 1 ?_;refine ay 2 ?_;refine ay 3 ?_ (hy:=fun w hSw=>by((try dsimp only at hSw);(obtain⟨gp,gv,hgb⟩:=afu (HG.out.below hSw));have g2:=bJ hgb 2;simp only[aM]at g2;go_simp;(try with_reducible rfl)));refine ay 4 ?_ (hy:=fun w hSw=>by((try dsimp only at hSw);(obtain⟨x0,x1,x2,x3,x4,x5⟩:=(vQ.out.below hSw).cells);go_simp;(try with_reducible rfl)));refine wM 5 9 (fun K hK=>?_) fun K hK=>?_
  ·go_simp
   ((with_reducible refine(qt _ hHeld).mono ?_);rintro e W2 ⟨E,m,c,rfl,hmc,hfs,hnew,b2⟩)
   unfold iL;refine hK.out _ _ (aA hHeld b2) fun hHeld=>?_;clear hK K;refine ay 6 ?_;refine ay 7 ?_;refine ay 8 ?_;have bU:=ah hHeld;refine bH 9 fun K hK=>?_;go_simp;refine hK.out _ _ (hHeld.alloc hHeld.size _) fun hHeld=>?_;clear hK K;refine bH 10 fun K hK=>?_;go_simp;refine hK.out _ _ (bU.out.alloc bU.out.size _) fun hHeld=>?_;clear hK K;refine ay 11 ?_;refine wpAnyH_done (by kernel_rfl) ?_ _;refine NoPanic.normal ?_;go_wp2_with fail;go_meet;have bQ:Below W2.heap.size W2 (W2.alloc (.cells (aC q (.slice E m c)) 68)):=ak _ _;exact⟨W2.heap.size,E,m,c,rfl,rfl,bU.out.size,World.alloc_heap_new W2 _,hmc,hfs.below bQ,hnew,hHeld⟩
  ·go_simp;have hg5:cO (W0.drew.alloc (.cells z6 68)) W0.heap.size dL (.slice none 0 0):=World.alloc_heap_new W0.drew _;have Yt:Hid (W0.heap.size<(W0.drew.alloc (.cells z6 68)).heap.size):=fF hg5;refine hK.out _ _ (hHeld.alloc hHeld.size _) fun hHeld=>?_;clear hK K;refine bH 5 fun K hK=>?_;go_simp
   ((with_reducible refine(qt _ hHeld).mono ?_);rintro e W2 ⟨E,m,c,rfl,hmc,hfs,hnew,b2⟩)
   unfold iL;have hg5:=hg5.below b2;have apL:=hnew;refine hK.out _ _ (aA hHeld b2) fun hHeld=>?_;clear hK K;refine ay 6 ?_;refine ay 7 ?_;refine ay 8 ?_;obtain⟨z0,z1,z2,z3,z4,z5⟩:=hg5.cells;simp only[dL]at z0 z1 z2 z3 z4;have nW:=hg5.frozen 0;have nX:=hg5.frozen 1;have lg:=hg5.frozen 2;have mZ:=hg5.frozen 3;have nY:=hg5.frozen 4;have Dv:=hg5.frozen 5;refine bH 10 fun K hK=>?_;go_simp;refine hK.out _ _ (Bu hHeld (Nat.le_refl _) _ _ _ _ _ _) fun hHeld=>?_;clear hK K;refine ay 11 ?_;refine wpAnyH_done (by kernel_rfl) ?_ _;refine NoPanic.normal ?_;go_wp2_with fail;go_meet;exact⟨W0.heap.size,E,m,c,rfl,rfl,Nat.le_refl _,RV hg5 q (.slice E m c),hmc,BD hfs apL Yt.out _ _ _ _ _ _,fun b_ o_ e_=>Nat.le_trans (Nat.le_of_lt Yt.out) (hnew b_ o_ e_),hHeld⟩
 case rest=>
  obtain⟨g5,E,m,c,rfl,rfl,apy,hown,hmc,hfs,hnew,b_⟩:=hcut;clear qt;have nZ:=ah (HG.out.below b_);have HB1:Hid (Below B w wc):=HB0.out.trans (b_.mono (by have bP:=zn.out;have eU:=gP.out;omega));have eZ:Hid (Lib.OthersKept 5 (some b) w wc):=EU.out.trans (H6 b_);have dK:Hid (w.heap.size≤wc.heap.size):=Nat.le_trans gP.out b_.size;have HOW:=ah hown;clear hown;have tX:=ah hfs;clear hfs;have q2:=fun W (hb:Below wc.heap.size wc W)=>qe E m c W (tX.out.below hb);clear qe apy hmc hnew b_;go_upto_region 4 with fail;refine wp_region_noPanic ?_;refine wp_region_held_drew (S:=(fun W_=>Below wc.heap.size wc W_)) (by kernel_rfl) ((Below.refl _ _).drew) (fun hHeld=>?_);refine ay 0 ?_;refine ay 1 ?_;refine ay 2 ?_;refine ay 3 ?_ (hy:=fun w hSw=>by((try dsimp only at hSw);(obtain⟨gp,gv,hgb⟩:=afu (nZ.out.below hSw));have g2:=bJ hgb 2;simp only[aM]at g2;go_simp;(try with_reducible rfl)));refine ay 4 ?_ (hy:=fun w hSw=>by((try dsimp only at hSw);(obtain⟨x0,x1,x2,x3,x4,x5⟩:=(HOW.out.below hSw).cells);go_simp;(try with_reducible rfl)));refine bH 5 fun K hK=>?_;go_simp
  ((with_reducible refine(q2 _ hHeld).mono ?_);rintro e W3 ⟨rfl,b3⟩)
  refine hK.out _ _ (aA hHeld b3) fun hHeld=>?_;clear hK K;refine ay 6 ?_;refine ay 7 ?_;refine ay 8 ?_;refine ay 9 ?_;refine ay 10 ?_;refine wpAnyH_done (by kernel_rfl) ?_ _;refine NoPanic.normal ?_;clear q2;have dB:=ah (nZ.out.below hHeld);have HB3:Hid (Below B w W3):=HB1.out.trans (hHeld.mono (by have bP:=zn.out;have eU:=dK.out;omega));have gH:Hid (Lib.OthersKept 5 (some b) w W3):=eZ.out.trans (H6 hHeld);have D7:Hid (B≤W3.heap.size):=Nat.le_trans zn.out HB3.out.size;clear hHeld
  by_cases hz:z=0
  ·subst hz;have q4:=aai B b l ver (bs X) W3 dB.out D7.out (by rw[mR];have:=xq.out.2;omega) (by have:=gN.out;omega);rw[CB]at q4;go_wp2_with fail;refine q4.mono ?_;rintro e W4 ⟨rfl,hg4,b4,o4⟩;have HE:Hid (lC B b (l++pW X) ver W4∧Below B w W4∧Lib.OthersKept 5 (some b) w W4):=⟨hg4,HB3.out.trans b4,gH.out.trans o4⟩;clear hg4 b4 o4 q4;go_wp2_with fail;go_ret
   first|exact⟨rfl,fun _=>HE.out.1,HE.out.2.1,HE.out.2.2⟩|exact⟨rfl,HE.out.1,HE.out.2.1,HE.out.2.2⟩
  ·have ez:((z:Int) != 0)=true:=by rw[bne_iff_ne];omega
   have HZ:=ah hz;clear hz;go_wp2_with fail;go_ret;exact⟨rfl,fun h=>absurd h HZ.out,HB3.out,gH.out⟩
def Jy (w:World) (g:Nat) (d:aF) (x:Value):Prop:=w.heap[g]? =some (.cells (aD d x) 90 (0,0))
theorem Jy.others {w w':World} {g b:Nat} {d:aF} {x:Value} (h:Jy w g d x) (ho:Lib.OthersKept 5 (some b) w w') (hne:g≠b):Jy w' g d x:=
 ho _ _ h (fun e=>hne (by cases e;rfl)) (fun c fz e=>by injection e with _ e2 _;exact absurd e2 (by decide))
theorem aoS (x:Int):[x].flatMap jH=jH x:=by simp
theorem ao9 (w0:World) (b:Nat) (l:List UInt8) (ver:Int) (d:aF) (K:Option Addr) (k kc:Nat) (w:World) (h:lC w0.heap.size b l ver w) (hb:Below w0.heap.size w0 w) (hd:Jz d) (hk:dw w0 K k d.rep.keys) (hl:l.length≤5000000):
  Calls Tryz.prog 96 #[.pointer (some ⟨b,0,none⟩),.agg (aD d (.slice K k kc))] w (Od w0.heap.size b (l++l9 d) ver w):=by
 obtain⟨⟨d1,⟨d2,d3⟩,d4,d5,⟨d6,d7⟩⟩,⟨⟨d8,d9⟩,Qm,d11⟩⟩:=hd;have mx:bZ=9007199254740992:=rfl;have acP:=ah d1;clear d1;have adJ:=ah d4;clear d4;have S_:Hid (k≤5):=by show k≤5;have:=hk.1;omega
 clear d5;have oU:Hid (k=d.rep.keys.length):=hk.1;have DT:=ah hk;clear hk;have zn:=ah hb;clear hb;have gN:=ah hl;clear hl;have hal:Below w.heap.size w (w.alloc (.cells (aD d (.slice K k kc)) 90)):=ak _ _;have hbx:Jy (w.alloc (.cells (aD d (.slice K k kc)) 90)) w.heap.size d (.slice K k kc):=World.alloc_heap_new w _;have hne:w.heap.size≠b:=by have:=h.lt.2;omega
 obtain⟨W0,hW0⟩:=aQ (w.alloc (.cells (aD d (.slice K k kc)) 90));rw[hW0]at hal hbx;have D8:Hid (w0.heap.size≤w.heap.size):=zn.out.size;have m_:=ah hne;clear hne;have Ow:=ah (h.below hal);clear h;have HX0:=ah hbx;clear hbx;have HB0:Hid (Below w0.heap.size w W0):=hal.mono D8.out;have EU:Hid (Lib.OthersKept 5 (some b) w W0):=H6 hal;clear hal
 -- the four numbers
 have hnb:Cr (W0.alloc (.cells #[.int .i64 d.client,.int .i64 d.id,.int .i64 d.rep.errno,.int .i64 d.rep.rev] 3)) W0.heap.size [d.client,d.id,d.rep.errno,d.rep.rev]:=World.alloc_heap_new W0 _;have hal:Below W0.heap.size W0 (W0.alloc (.cells #[.int .i64 d.client,.int .i64 d.id,.int .i64 d.rep.errno,.int .i64 d.rep.rev] 3)):=ak _ _;have hne:W0.heap.size≠b:=by have:=Ow.out.lt.2;omega
 have q1:=Vr w0.heap.size b W0.heap.size l ver [d.client,d.id,d.rep.errno,d.rep.rev] _ (Ow.out.below hal) hnb hne (by have bP:=D8.out;have eU:=HB0.out.size;have eF:=hal.size;omega) (fun z hz=>by
  simp only[List.mem_cons,List.not_mem_nil,or_false]at hz;rcases hz with rfl|rfl|rfl|rfl<;>omega) (by have:=gN.out;simp only[List.length_cons,List.length_nil];omega)
 have Sq:Hid (Below w0.heap.size w (W0.alloc (.cells #[.int .i64 d.client,.int .i64 d.id,.int .i64 d.rep.errno,.int .i64 d.rep.rev] 3))):=HB0.out.trans (hal.mono (by have bP:=D8.out;have eU:=HB0.out.size;omega));have acW:Hid (Lib.OthersKept 5 (some b) w (W0.alloc (.cells #[.int .i64 d.client,.int .i64 d.id,.int .i64 d.rep.errno,.int .i64 d.rep.rev] 3))):=EU.out.trans (H6 hal);have adQ:Hid (Jy (W0.alloc (.cells #[.int .i64 d.client,.int .i64 d.id,.int .i64 d.rep.errno,.int .i64 d.rep.rev] 3)) w.heap.size d (.slice K k kc)):=Eq.trans (hal.block _ (fF HX0.out)) HX0.out;simp only[List.length_cons,List.length_nil,Nat.zero_add,Nat.reduceAdd]at q1;have sG:Hid ((l++[d.client,d.id,d.rep.errno,d.rep.rev].flatMap jH).length≤5000032):=by
  show _≤_;have h1:=tu (x:=d.client) (by omega);have h2:=tu (x:=d.id) (by omega);have h3:=tu (x:=d.rep.errno) (by omega);have h4:=tu (x:=d.rep.rev) (by omega);have h5:=gN.out;simp only[List.length_append,List.flatMap_cons,List.flatMap_nil,List.length_nil];omega
 clear hal hnb hne d2 d3 d6 d7 d8 d9 Qm d11;have d0:=bJ HX0.out 0;have d1:=bJ HX0.out 1;have d2:=bJ HX0.out 2;have d3:=bJ HX0.out 3;have d4:=bJ HX0.out 4;have d5:=bJ HX0.out 5;simp only[aM]at d0 d1 d2 d3 d4 d5;go_enter Tryz.func96,Tryz.ntmps96;go_wp2_with fail
 try rw[hW0]
 clear hW0;refine q1.mono ?_;rintro e W1 ⟨rfl,hg1,b1,o1⟩;have nZ:=ah hg1;clear hg1 q1 d0 d1 d2 d3 d4 d5;have jl:=ah (adQ.out.others o1 m_.out);clear adQ;have HB1:=ah (Sq.out.trans b1);clear b1 Sq;have eZ:=ah (acW.out.trans o1);clear o1 acW
 -- the value
 have q2:=aai w0.heap.size b _ ver d.rep.value W1 nZ.out (Nat.le_trans D8.out HB1.out.size) (by have:=adJ.out;omega) (by have:=sG.out;omega);have d0:=bJ jl.out 0;have d1:=bJ jl.out 1;have d2:=bJ jl.out 2;have d3:=bJ jl.out 3;have d4:=bJ jl.out 4;have d5:=bJ jl.out 5;simp only[aM]at d0 d1 d2 d3 d4 d5;go_wp2_with fail;refine q2.mono ?_;rintro e W2 ⟨rfl,hg2,b2,o2⟩;have HG2:=ah hg2;clear hg2 q2 d0 d1 d2 d3 d4 d5;have iR:=ah (jl.out.others o2 m_.out);have HB2:=ah (HB1.out.trans b2);clear b2;have eX:=ah (eZ.out.trans o2);clear o2;have HL2:Hid ((l++[d.client,d.id,d.rep.errno,d.rep.rev].flatMap jH++pW d.rep.value.data.toList).length≤5001000):=by
  show _≤_;have h1:=sG.out;have h2:=adJ.out;have h3:=BN (n:=d.rep.value.size) (by omega);unfold pW;simp only[List.length_append,Fy]at h1 ⊢;omega
 -- how many keys
 have hnb:Cr (W2.alloc (.cells #[.int .i64 (k:Int)] 3)) W2.heap.size [(k:Int)]:=World.alloc_heap_new W2 _;have hal:Below W2.heap.size W2 (W2.alloc (.cells #[.int .i64 (k:Int)] 3)):=ak _ _;have hne:W2.heap.size≠b:=by have:=HG2.out.lt.2;omega
 have q3:=Vr w0.heap.size b W2.heap.size _ ver [(k:Int)] _ (HG2.out.below hal) hnb hne (by have bP:=D8.out;have eU:=HB2.out.size;have eF:=hal.size;omega) (fun z hz=>by rw[List.mem_singleton.1 hz];unfold bZ;have:=S_.out;omega) (by have:=HL2.out;simp only[List.length_cons,List.length_nil];omega);have acr:Hid (Below w0.heap.size w (W2.alloc (.cells #[.int .i64 (k:Int)] 3))):=HB2.out.trans (hal.mono (by have bP:=D8.out;have eU:=HB2.out.size;omega));have acX:Hid (Lib.OthersKept 5 (some b) w (W2.alloc (.cells #[.int .i64 (k:Int)] 3))):=eX.out.trans (H6 hal);have adR:Hid (Jy (W2.alloc (.cells #[.int .i64 (k:Int)] 3)) w.heap.size d (.slice K k kc)):=Eq.trans (hal.block _ (fF iR.out)) iR.out;simp only[List.length_cons,List.length_nil,Nat.zero_add]at q3;clear hal hnb hne;have d0:=bJ iR.out 0;have d1:=bJ iR.out 1;have d2:=bJ iR.out 2;have d3:=bJ iR.out 3;have d4:=bJ iR.out 4;have d5:=bJ iR.out 5;simp only[aM]at d0 d1 d2 d3 d4 d5;go_wp2_with fail;refine q3.mono ?_;rintro e W3 ⟨rfl,hg3,b3,o3⟩;have jP:=ah (adR.out.others o3 m_.out);clear adR;have HB3:=ah (acr.out.trans b3);clear b3 acr;have gH:=ah (acX.out.trans o3);clear o3 acX;obtain⟨L3,hL3⟩:∃L,l++[d.client,d.id,d.rep.errno,d.rep.rev].flatMap jH++pW d.rep.value.data.toList++[(k:Int)].flatMap jH=L:=⟨_,rfl⟩;rw[hL3]at hg3;have dB:=ah hg3;clear hg3 q3 d0 d1 d2 d3 d4 d5;have qN:Hid (L3++d.rep.keys.flatMap mW=l++l9 d):=by
  show _=_;rw[←hL3];unfold l9 mW;rw[oU.out];simp only[List.append_assoc,List.flatMap_cons,List.flatMap_nil,List.append_nil];rfl
 have DU:Hid (L3.length≤5001100):=by
  show _≤_;have h1:=HL2.out;have h2:=tu (x:=(k:Int)) (by unfold bZ;have:=S_.out;omega);rw[←hL3,List.length_append,aoS];omega
 clear hL3 sG HL2;have d0:=bJ jP.out 0;have d1:=bJ jP.out 1;have d2:=bJ jP.out 2;have d3:=bJ jP.out 3;have d4:=bJ jP.out 4;have d5:=bJ jP.out 5;simp only[aM]at d0 d1 d2 d3 d4 d5;have hkm:k≤9223372036854775807:=by have:=S_.out;omega
 go_wp2_with fail;clear d0 d1 d2 d3 d4 d5;go_loopw [35] (fun i wy=>∃(j:Nat) (wr:World),wr=wy∧j≤k∧i= .int .i64 j∧lC w0.heap.size b (L3++(d.rep.keys.take j).flatMap mW) ver wr∧Below w0.heap.size w wr∧Lib.OthersKept 5 (some b) w wr) (fun i _=>k-(intOf i).toNat)
 case atStart=>exact⟨0,_,rfl,by omega,rfl,by simpa using dB.out,HB3.out,gH.out⟩
 case round=>
  obtain⟨j,wr,rfl,hj,rfl,hgi,hbw,hok⟩:=hrel;have yt:=ah hgi;clear hgi;have bU:=ah hbw;clear hbw;have lX:=ah hok;clear hok
  by_cases hlt:j<k
  ·have HJ:Hid (j<d.rep.keys.length):=by show j<_;rw[←oU.out];exact hlt
   have hss:=DT.out.below (zn.out.trans bU.out);obtain⟨q,off,hA,hq,hat⟩:=hss.2.2.2 (by omega);subst hA;have c1:=hat j HJ.out;have HKJ:Hid ((d.rep.keys.getD j ByteArray.empty).size≤16):=acP.out _ (by rw[List.getD_eq_getElem?_getD,List.getElem?_eq_getElem HJ.out];exact List.getElem_mem _);have HS:Hid (L3++(d.rep.keys.take j).flatMap mW++pW (d.rep.keys.getD j ByteArray.empty).data.toList=L3++(d.rep.keys.take (j+1)).flatMap mW):=by
    show _=_;rw[List.take_succ_eq_append_getElem HJ.out,List.flatMap_append,List.append_assoc,List.getD_eq_getElem?_getD,List.getElem?_eq_getElem HJ.out];simp[mW]
   have hlen:Hid ((L3++(d.rep.keys.take j).flatMap mW).length≤6000000):=by
    show _≤_;have h1:=KF mW (b:=10008) (l:=d.rep.keys.take j) (fun x hx=>aa5 (by have:=acP.out x (List.mem_of_mem_take hx);omega));have h2:(d.rep.keys.take j).length*10008≤5*10008:=Nat.mul_le_mul_right _ (by rw[List.length_take];have:=S_.out;omega);have h3:=DU.out;rw[List.length_append];omega
   clear hat hss hq;generalize d.rep.keys.getD j ByteArray.empty=S at*;generalize L3++(d.rep.keys.take j).flatMap mW=L at*;have q4:=aai w0.heap.size b L ver S wr yt.out (Nat.le_trans D8.out bU.out.size) (by have:=HKJ.out;omega) (by have:=hlen.out;omega);rw[HS.out]at q4;have M8:(j:Int)<(k:Int):=by omega
   have ji:=hlen;clear hlen;go_wp2_with fail;refine q4.mono ?_;rintro e W4 ⟨rfl,hg4,b4,o4⟩;have wY:=ah hg4;clear hg4 q4 c1;have cB:=ah (bU.out.trans b4);clear b4;have fA:=ah (lX.out.trans o4);clear o4;go_wp2_with fail;go_roundw
   case rel=>exact⟨j+1,_,rfl,by omega,by go_num,wY.out,cB.out,fA.out⟩
   case measure=>simp[intOf];omega
  ·have iw:j=k:=by omega
   subst iw;go_wp2_with fail
   go_end0
   refine⟨rfl,?_,bU.out,lX.out⟩;have bP:=yt.out;rw[List.take_of_length_le (by have:=oU.out;omega),qN.out]at bP;exact bP
end Go.Proofs.YtodaapcohdpenaaGreat
