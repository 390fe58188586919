-- eB
import Derived.Test.YtodaapcohdpenaaGreatGSq
import Derived.Test.YtodaapcohdpenaaGreatGRecA
import Derived.Test.YtodaapcohdpenaaGreatGVar
import Derived.Test.YtodaapcohdpenaaGreatGEnc
import Derived.Test.YtodaapcohdpenaaGreatFields
import Derived.Deep.RegionHeld3
import Derived.Maps.AppendAt
import Derived.Maps.OwnSet
import Derived.Test.YtodaapcohdpenaaGreatGFld
namespace Go.Proofs.YtodaapcohdpenaaGreat
open Go.RowKit
set_option maxHeartbeats 8000000
set_option maxRecDepth 100000
theorem agK {n:Int} (h:n≠0):iJ n=bs (vb n.toNat):=by unfold iJ bs;rw[if_neg h]
theorem agL (n:Int) (h1:0≤n) (h2:n≤9007199254740992) (w:World):
  Calls Tryz.prog 202 #[.int .i64 n] w fun e w'=>e= .returned (.string (iJ n))∧Below w.heap.size w w':=by
 by_cases h0:n=0
 ·subst h0;go_enter Tryz.func202,Tryz.ntmps202;go_wp2_with fail;go_ret;exact⟨rfl,Below.refl _ _⟩
 ·have hp:=Vz n h1 h2;rw[←agK h0]at hp;have e0:(n==0)=false:=by simpa using h0
  clear h1 h2 h0;generalize iJ n=S at hp ⊢;go_enter Tryz.func202,Tryz.ntmps202;go_wp2_with fail;refine(hp _).mono ?_;rintro e w1 ⟨rfl,b1⟩;go_wp2_with fail;go_ret;exact⟨rfl,b1⟩
def aiz (w:World) (fs:List aT) (e:Ending) (w':World):Prop:=
 ∃A n cap,e= .returned (.slice A n cap)∧n≤cap∧dh w' A n fs∧Below w.heap.size w w'
theorem Lj {w:World} {ops:Array Oper} {rest:List Oper} {o:Oper} {a:Act} {Q:Exit→Act→World→Prop} (hgd:o.guard=none) (s x:Operand)
  (ho:o.op= .call { callee:=.builtin .append,args:=#[s,x],argTypes:=#[66,66] })
  (base:Nat) (v:Value) (fs:List aT) (hs:a.eval s=v) (hown:w.ownsRow base 65 2 v fs.length (iP fs))
  (A:Option Addr) (m c:Nat) (gs:List aT) (hx:a.eval x= .slice A m c) (hf:dh w A m gs)
  (h63:fs.length+m≤1000) (hbase:base≤w.heap.size)
  (h:∀v' w',w'.ownsRow base 65 2 v' (fs++gs).length (iP (fs++gs))→w.grownBy w' v.ownBlock→wpList Tryz.prog ops Q rest (a.put o.dst v') w'):
  wpList Tryz.prog ops Q (o::rest) a w:=by
 obtain⟨i0,hi,hz0,hz1,hz2⟩:=info_parts Rq;obtain⟨hm,_,_,hat⟩:=hf;rcases Nat.eq_zero_or_pos m with rfl|hp
 ·have hg:gs=[]:=List.eq_nil_of_length_eq_zero hm.symm;subst hg;refine wpList_plain hgd fun K hK=>?_;have hrun:=abB (P:=Tryz.prog) (w:=w) base 66 o.type 65 i0 2 Tryz.underlying66 hi v fs.length _ hown A c;unfold Oper.wp;simp[execOp,ho,resolve,invoke,builtin,hs,hx,hrun,Result.andThen];refine hK _ _ (h v w (by simpa using hown) ?_);exact⟨rfl,rfl,rfl,Nat.le_refl _,fun _ _ _=>rfl⟩
 ·obtain⟨b,off,rfl,hb,hat⟩:=hat hp;refine wpList_append_own_at w hgd s x 66 ho base 65 i0 (.agg #[.int .i64 0,.string ⟨#[]⟩]) 2 24 Tryz.underlying66 hi hz0 hz1 hz2 rfl (by decide) v fs.length _ hs hown ⟨b,off,none⟩ m c (iP gs) hx (by rw[MP,hm]) (UL hat) (UM gs) (by unfold maxLen;omega) (by omega) hbase ?_;intro v' w' h1 h2 _ _;refine h v' w' ?_ h2;rw[Qg,List.length_append,←hm];exact h1
theorem ao5 (l:List aT) (t:Int) (d:ByteArray):full (l++[(t,d)])=full l++opt t (ob d):=by
 have h1:full [(t,d)]=opt t (ob d):=by rw[MZ,afq];simp
 rw[←h1];unfold full;rw[List.filter_append]
theorem ao6 {fs:List aT} {k:Nat} (h:k<fs.length):full (fs.take (k+1))=full (fs.take k)++opt (tg fs k) (ob (dt fs k)):=by
 rw[List.take_succ_eq_append_getElem h,MX h,ao5]
theorem ao4 (l:List aT):(full l).length≤l.length:=List.length_filter_le _ _
theorem kP.full {l:List aT} (h:kP l) (k:Nat):kP (full (l.take k)):=fun f hf=>h f (List.mem_of_mem_take (List.mem_filter.1 hf).1)
theorem kP.append {a b:List aT} (h:kP a) (h2:kP b):kP (a++b):=fun f hf=>by
 rcases List.mem_append.1 hf with h3|h3
 ·exact h f h3
 ·exact h2 f h3
theorem aoQ {r:au} (hr:zK r) (h1:0≤r.rev∧r.rev≤9007199254740992) (h2:0≤r.life∧r.life≤9007199254740992):kP (five r):=by
 have n1:=RG h1.1 h1.2;have n2:=RG h2.1 h2.2;obtain⟨s1,s2,s3⟩:=hr;intro f hf;simp only[five,List.mem_cons,List.not_mem_nil,or_false]at hf;rcases hf with rfl|rfl|rfl|rfl|rfl
 ·exact⟨Lh (t:=1) (by omega),by show r.key.size≤_;omega⟩
 ·exact⟨Lh (t:=2) (by omega),by show r.value.size≤_;omega⟩
 ·exact⟨Lh (t:=3) (by omega),by show(iJ r.rev).size≤_;omega⟩
 ·exact⟨Lh (t:=4) (by omega),by show(iJ r.life).size≤_;omega⟩
 ·exact⟨Lh (t:=5) (by omega),by show r.note.size≤_;omega⟩
theorem ag3 {x:Nat} {w0 W W':World} {v0 v1 v2 v3 v4 v5:Value}
  (h:W.cell? ⟨x,0,none⟩=some v0∧W.cell? ⟨x,1,none⟩=some v1∧W.cell? ⟨x,2,none⟩=some v2∧W.cell? ⟨x,3,none⟩=some v3∧W.cell? ⟨x,4,none⟩=some v4∧W.cell? ⟨x,5,none⟩=some v5∧Below w0.heap.size w0 W) (b:Below W.heap.size W W'):
  W'.cell? ⟨x,0,none⟩=some v0∧W'.cell? ⟨x,1,none⟩=some v1∧W'.cell? ⟨x,2,none⟩=some v2∧W'.cell? ⟨x,3,none⟩=some v3∧W'.cell? ⟨x,4,none⟩=some v4∧W'.cell? ⟨x,5,none⟩=some v5∧Below w0.heap.size w0 W':=by
 obtain⟨h0,h1,h2,h3,h4,h5,h6⟩:=h;have hlt:=lt_of_cell (a:=⟨x,0,none⟩) h0;exact⟨(b.cell (p:=⟨x,0,none⟩) hlt).trans h0,(b.cell (p:=⟨x,1,none⟩) hlt).trans h1,(b.cell (p:=⟨x,2,none⟩) hlt).trans h2,(b.cell (p:=⟨x,3,none⟩) hlt).trans h3,(b.cell (p:=⟨x,4,none⟩) hlt).trans h4,(b.cell (p:=⟨x,5,none⟩) hlt).trans h5,aA h6 b⟩
theorem aqs {W:World} {y:Nat} {a b c d e:ByteArray} (h:W.heap[y]? =some (.cells #[.int .i64 1,.string a,.int .i64 2,.string b,.int .i64 3,.string c,.int .i64 4,.string d,.int .i64 5,.string e] 65 (0,0))) (hw:kP [(1,a),(2,b),(3,c),(4,d),(5,e)]):
  dh W (some ⟨y,0,none⟩) 5 [(1,a),(2,b),(3,c),(4,d),(5,e)]:=by
 refine⟨rfl,by unfold maxLen;omega,hw,fun _=>⟨y,0,rfl,fF h,fun i hi=>?_⟩⟩;obtain⟨d1,d2⟩:=ZK [(1,a),(2,b),(3,c),(4,d),(5,e)] i hi;refine⟨?_,?_⟩
 ·rw[bJ h];simpa[iP]using d1
 ·rw[bJ h];simpa[iP]using d2
theorem Nh {w:World} {b:Nat} {t:Int} {s:ByteArray} (h1:w.cell? ⟨b,0,none⟩=some (.int .i64 t)) (h2:w.cell? ⟨b,1,none⟩=some (.string s)) (hw:(Lit.int .i64 t).wf=true) (hs:s.size≤9223372036854775807):dh w (some ⟨b,0,none⟩) 1 [(t,s)]:=by
 refine⟨rfl,by unfold maxLen;omega,fun f hf=>?_,fun _=>⟨b,0,rfl,lt_of_cell h1,fun i hi=>?_⟩⟩
 ·rw[List.mem_singleton]at hf;subst hf;exact⟨hw,hs⟩
 ·have:i=0:=by simpa using hi
  subst this;exact⟨h1,h2⟩
theorem Vt {t:Int} {d:ByteArray} (h:d.size≠0):opt t (ob d)=[(t,d)]:=by unfold ob;rw[if_neg h];rfl
theorem Vs {t:Int} {d:ByteArray} (h:d.size=0):opt t (ob d)=[]:=by unfold ob;rw[if_pos h];rfl
theorem Wp {s:ByteArray} (h:s.size≠0):s.toList.isEmpty=false:=by
 rw[Bool.eq_false_iff];intro h2;exact h ((pX s).1 (by simpa using h2))
theorem aoK (r:au) (A:Option Addr) (n cap:Nat) (w:World) (hr:zK r) (h1:0≤r.rev∧r.rev≤9007199254740992) (h2:0≤r.life∧r.life≤9007199254740992) (h:dh w A n r.extra) (h64:n≤64):
  Calls Tryz.prog 185 #[iL r (.slice A n cap)] w (aiz w (fQ r)):=by
 have Nf:=aoQ hr h1 h2;have q1:=agL r.rev h1.1 h1.2;have q2:=agL r.life h2.1 h2.2;have yG:=ah Nf;clear Nf;have HF:=ah (show full (five r)++r.extra=fQ r from rfl);have H5:=ah (show five r=[(1,r.key),(2,r.value),(3,iJ r.rev),(4,iJ r.life),(5,r.note)]from rfl);obtain⟨key,value,rev,life,note,extra⟩:=r;simp only at*;obtain⟨D1,hD1⟩:∃D,iJ rev=D:=⟨_,rfl⟩;obtain⟨D2,hD2⟩:∃D,iJ life=D:=⟨_,rfl⟩;rw[hD1]at q1 H5;rw[hD2]at q2 H5;clear hD1 hD2 h1 h2;have hb0:Below w.heap.size w (w.alloc (.cells #[.string key,.string value,.int .i64 rev,.int .i64 life,.string note,.slice A n cap] 68)):=ak _ _;have hx:=World.alloc_heap_new w (.cells #[.string key,.string value,.int .i64 rev,.int .i64 life,.string note,.slice A n cap] 68);have hS:∀W,W=(w.alloc (.cells #[.string key,.string value,.int .i64 rev,.int .i64 life,.string note,.slice A n cap] 68)).drew→(W.cell? ⟨w.heap.size,0,none⟩=some (.string key)∧W.cell? ⟨w.heap.size,1,none⟩=some (.string value)∧W.cell? ⟨w.heap.size,2,none⟩=some (.int .i64 rev)∧W.cell? ⟨w.heap.size,3,none⟩=some (.int .i64 life)∧W.cell? ⟨w.heap.size,4,none⟩=some (.string note)∧W.cell? ⟨w.heap.size,5,none⟩=some (.slice A n cap)∧Below w.heap.size w W):=by
  rintro W rfl;exact⟨bJ hx 0,bJ hx 1,bJ hx 2,bJ hx 3,bJ hx 4,bJ hx 5,hb0.drew⟩
 have HS:=ah hS;clear hS hx hb0;go_enter Tryz.func185,Tryz.ntmps185;go_wp2_with fail;go_region_held3 (fun W=>W.cell? ⟨w.heap.size,0,none⟩=some (.string key)∧W.cell? ⟨w.heap.size,1,none⟩=some (.string value)∧W.cell? ⟨w.heap.size,2,none⟩=some (.int .i64 rev)∧W.cell? ⟨w.heap.size,3,none⟩=some (.int .i64 life)∧W.cell? ⟨w.heap.size,4,none⟩=some (.string note)∧W.cell? ⟨w.heap.size,5,none⟩=some (.slice A n cap)∧Below w.heap.size w W) (first|exact HS.out _ rfl|exact ag3 (by assumption) (by assumption)|exact ag3 (by assumption) (ak _ _)) (first|((with_reducible refine(q1 _).mono ?_);rintro e w' ⟨rfl,bq⟩)|((with_reducible refine(q2 _).mono ?_);rintro e w' ⟨rfl,bq⟩));rename_i wq bq w' bq' hH;obtain⟨_,_,_,_,_,c5,bw⟩:=hH;have HW:kP [(1,key),(2,value),(3,D1),(4,D2),(5,note)]:=by rw[←H5.out];exact yG.out
 have rO:=aqs (World.alloc_heap_new w' _) HW;have hfx:=h.below bw;have Lv:Hid (full [(1,key),(2,value),(3,D1),(4,D2),(5,note)]++extra=fQ ⟨key,value,rev,life,note,extra⟩):=by
  show _=_;rw[←HF.out,H5.out]
 clear HF H5 yG HS h q1 q2 bq bq';generalize fQ ⟨key,value,rev,life,note,extra⟩=FR at*;obtain⟨F5,hF5⟩:∃F,([(1,key),(2,value),(3,D1),(4,D2),(5,note)]:List aT)=F:=⟨_,rfl⟩;rw[hF5]at HW rO Lv;clear hF5;generalize w'.heap.size=y at*;generalize w'.alloc (.cells #[.int .i64 1,.string key,.int .i64 2,.string value,.int .i64 3,.string D1,.int .i64 4,.string D2,.int .i64 5,.string note] 65)=W3 at*;obtain⟨hn5,_,_,UZ⟩:=rO;obtain⟨b5,avQ,hA5,hb5,UZ⟩:=UZ (by omega);simp only[Option.some.injEq,Addr.mk.injEq,and_true]at hA5;obtain⟨hy,ho5⟩:=hA5;subst hy ho5;have OZ:=ah hn5;clear hn5;have aiC:=ah UZ;clear UZ;have Ov:=ah hfx;clear hfx;go_wp2_with fail;go_loopw [4,27] (fun l i wr=>∃k:Nat,k≤5∧i= .int .i64 k∧wr.ownsRow W3.heap.size 65 2 l (full (F5.take k)).length (iP (full (F5.take k)))∧Below W3.heap.size W3 wr) (fun _ i _=>5-(intOf i).toNat)
 case atStart=>exact⟨0,by omega,rfl,World.ownsRow_nil _ _ _ _,Below.refl _ _⟩
 case round=>
  obtain⟨k,hk,rfl,hown,hbw⟩:=hrel;have hlf:(full (F5.take k)).length≤k:=Nat.le_trans (ao4 _) (List.length_take_le _ _);obtain⟨A1,dP,hv,hcap,hfs⟩:=sV hown (HW.full k);subst hv
  by_cases hlt:k<5
  ·have HK:Hid (k<F5.length):=by have:=OZ.out;show k<F5.length;omega
   obtain⟨c1,c2⟩:wr.cell? ⟨y,k*2,none⟩=some (.int .i64 (tg F5 k))∧wr.cell? ⟨y,k*2+1,none⟩=some (.string (dt F5 k)):=by
    have h:=aiC.out k HK.out;rw[Nat.zero_add]at h;exact⟨(hbw.cell (p:=⟨y,k*2,none⟩) hb5).trans h.1,(hbw.cell (p:=⟨y,k*2+1,none⟩) hb5).trans h.2⟩
   have hT:=ao6 HK.out;have hwf:=abY HW HK.out;have hsz:=Qr HW HK.out
   by_cases h0:(dt F5 k).size=0
   ·have HT:Hid (full (F5.take (k+1))=full (F5.take k)):=by show _=_;rw[hT,Vs h0,List.append_nil]
    have e0:=(pX _).2 h0;clear hT h0;go_wp2_with fail;go_roundw
    case rel=>exact⟨k+1,by omega,by go_num,by rw[HT.out];exact hown.alloc _,hbw.alloc hbw.size _⟩
    case measure=>simp[intOf];omega
   ·have HT:Hid (full (F5.take (k+1))=full (F5.take k)++[(tg F5 k,dt F5 k)]):=by show _=_;rw[hT,Vt h0]
    have e0:=Wp h0;clear hT h0;have hown2:((wr.alloc (.cells #[.int .i64 (tg F5 k),.string (dt F5 k)] 65)).alloc (.cells #[.int .i64 (tg F5 k),.string (dt F5 k)] 65)).ownsRow W3.heap.size 65 2 (.slice A1 (full (F5.take k)).length dP) (full (F5.take k)).length (iP (full (F5.take k))):=(hown.alloc _).alloc _;have hone:dh ((wr.alloc (.cells #[.int .i64 (tg F5 k),.string (dt F5 k)] 65)).alloc (.cells #[.int .i64 (tg F5 k),.string (dt F5 k)] 65)) (some ⟨wr.heap.size+1,0,none⟩) 1 [(tg F5 k,dt F5 k)]:=by
     have hx:=World.alloc_heap_new (wr.alloc (.cells #[.int .i64 (tg F5 k),.string (dt F5 k)] 65)) (.cells #[.int .i64 (tg F5 k),.string (dt F5 k)] 65);rw[show(wr.alloc (.cells #[.int .i64 (tg F5 k),.string (dt F5 k)] 65)).heap.size=wr.heap.size+1 from by simp]at hx;exact Nh (bJ hx 0) (bJ hx 1) hwf hsz
    have hb2:=(hbw.alloc hbw.size (.cells #[.int .i64 (tg F5 k),.string (dt F5 k)] 65)).alloc (by have:=hbw.size;simp;omega) (.cells #[.int .i64 (tg F5 k),.string (dt F5 k)] 65);go_wp2_with (at_builtin;refine Lj rfl _ _ rfl W3.heap.size _ (full (F5.take k)) rfl hown2 (some ⟨wr.heap.size+1,0,none⟩) 1 1 [(tg F5 k,dt F5 k)] rfl hone (by omega) (by have:=hb2.size;omega) ?_);intro v' V2 hown3 hgrow;go_wp2_with fail;go_roundw
    case rel=>exact⟨k+1,by omega,by go_num,by rw[HT.out,List.length_append];exact hown3,hb2.grown hgrow hb2.size (fun g hg=>(hown2.lt g hg).1)⟩
    case measure=>simp[intOf];omega
  ·have hk5:k=5:=by omega
   subst hk5;have HT:Hid (full (F5.take 5)=full F5):=by show _=_;rw[List.take_of_length_le (by have:=OZ.out;omega)]
   have c6:wr.cell? ⟨w.heap.size,5,none⟩=some (.slice A n cap):=(hbw.cell (p:=⟨w.heap.size,5,none⟩) (lt_of_cell (a:=⟨w.heap.size,5,none⟩) c5)).trans c5;have hfx:=Ov.out.below hbw;have hwx:=hfx.2.2.1;have HN:=ah hfx.1;go_wp2_with (at_builtin;refine Lj rfl _ _ rfl W3.heap.size _ (full (F5.take 5)) rfl hown A n cap extra rfl hfx (by omega) hbw.size ?_);intro v' V2 hown3 hgrow;have hwa:kP (full (F5.take 5)++extra):=(HW.full 5).append hwx;obtain⟨A2,cap2,hv,hcap2,mD⟩:=sV hown3 hwa;subst hv;go_wp2_with fail;go_ret;refine⟨A2,_,cap2,rfl,hcap2,by rw[←Lv.out,←HT.out];exact mD,aA bw (hbw.grown hgrow hbw.size (fun g hg=>(hown.lt g hg).1))⟩
open Go.Maps (Keyed int_keyed keyOf_int_mk)
def CO (v:Value):Option (DataW Unit×List MemPlace):=
 match v with
 | .func (.func f) a b=>if a.size=0∧b.size=0 then some (.lit (.int .i64 (f:Int)),[])else none
 | .nilFunc=>some (.lit (.bool false),[])
 |_=>none
theorem aoT {v:Value} {f:Nat} {ps:List MemPlace} (h:CO v=some (.lit (.int .i64 (f:Int)),ps)):v= .func (.func f) #[] #[]:=by
 unfold CO at h;split at h
 ·rename_i g a b;split at h
  ·rename_i hc;simp only[Option.some.injEq,Prod.mk.injEq,DataW.lit.injEq,Lit.int.injEq,true_and]at h;have h1:a= #[]:=Array.eq_empty_of_size_eq_zero hc.1;have h2:b= #[]:=Array.eq_empty_of_size_eq_zero hc.2;have h3:g=f:=Int.ofNat.inj h.1;rw[h1,h2,h3]
  ·cases h
 ·simp at h
 ·cases h
theorem Sd {H:Type} {P:Program} (w:World) {ops:Array Oper} {rest:List Oper} {o:Oper} {a:Act} {Q:Exit→Act→World→Prop}
  (hg:o.guard=none) (m x v:Operand) (t:TypeId) (hop:o.op=Op.insert t m x v)
  (k e:TypeId) (K:Keyed P k) (ht:P.underlying t=some (.map k e)) (R:Value→Option (DataW H×List MemPlace)) (b n:Nat) (D:DataW H)
  (hm:a.eval m= .map (some b)) (hown:w.ownsMap P k R b n D) (hn:n<maxLen) (key val:Value) (kl:Lit) (hx:a.eval x=key) (hv:a.eval v=val) (hkey:keyOf P k key=some kl)
  (d:DataW H) (ps:List MemPlace) (hval:R val=some (d,ps))
  (hK:∀w',w'.ownsMap P k R b (n+1) (D.put kl d)→w.grownBy w' (some b)→wpList P ops Q rest (a.put o.dst undef) w'):
  wpList P ops Q (o::rest) a w:=by
 refine wpList_plain hg fun K' hK'=>?_;obtain⟨w',hrun,r1,r2⟩:=hown.update K ht hn hkey hval;unfold Oper.wp;simp[execOp,hop,hm,hx,hv,hrun,Result.andThen];exact hK' _ _ (hK w' r1 r2)
theorem au0 {P:Program} (w:World) {ops:Array Oper} {rest:List Oper} {o:Oper} {a:Act} {Q:Exit→Act→World→Prop}
  (hg:o.guard=none) (m x:Operand) (t:TypeId) (hop:o.op=Op.lookup t m x false)
  (k e:TypeId) (K:Keyed P k) (ht:P.underlying t=some (.map k e)) (hz:(zeroValue e).run P w= .ok .nilFunc w) (b n:Nat) (D:DataW Unit)
  (hm:a.eval m= .map (some b)) (hown:w.ownsMap P k CO b n D) (key:Value) (kl:Lit) (hx:a.eval x=key) (hkey:keyOf P k key=some kl)
  (f:Nat) (hat:D.atKey kl (.lit (.bool false))= .lit (.int .i64 (f:Int)))
  (hK:wpList P ops Q rest (a.put o.dst (.func (.func f) #[] #[])) w):
  wpList P ops Q (o::rest) a w:=by
 refine wpList_plain hg fun K' hK'=>?_;obtain⟨v,ps,hrun,hv⟩:=hown.lookup K ht hz (zd:=.lit (.bool false)) (zp:=[]) rfl hkey;rw[hat]at hv;obtain rfl:=aoT hv;unfold Oper.wp;simp[execOp,hop,hm,hx,hrun,Result.andThen];exact hK' _ _ hK
def Fw:DataW Unit:=(((((DataW.map []).put (.int .i64 1) (.lit (.int .i64 (213:Nat)))).put (.int .i64 2) (.lit (.int .i64 (215:Nat)))).put (.int .i64 3) (.lit (.int .i64 (216:Nat)))).put (.int .i64 4) (.lit (.int .i64 (218:Nat)))).put (.int .i64 5) (.lit (.int .i64 (219:Nat)))
theorem amo:Fw.atKey (.int .i64 1) (.lit (.bool false))= .lit (.int .i64 (213:Nat)):=by rfl
theorem amq:Fw.atKey (.int .i64 2) (.lit (.bool false))= .lit (.int .i64 (215:Nat)):=by rfl
theorem amr:Fw.atKey (.int .i64 3) (.lit (.bool false))= .lit (.int .i64 (216:Nat)):=by rfl
theorem ams:Fw.atKey (.int .i64 4) (.lit (.bool false))= .lit (.int .i64 (218:Nat)):=by rfl
theorem amt:Fw.atKey (.int .i64 5) (.lit (.bool false))= .lit (.int .i64 (219:Nat)):=by rfl
theorem au_ (w:World):(zeroValue 218).run Tryz.prog w= .ok .nilFunc w:=by kernel_rfl
def aiq (w:World) (e:Ending) (w':World):Prop:=
 ∃b,e= .returned (.map (some b))∧w'.ownsMap Tryz.prog 3 CO b 5 Fw∧Below w.heap.size w w'∧w.heap.size≤b
theorem amu (w:World):Calls Tryz.prog 211 #[] w (aiq w):=by
 have hmm:=@run_makeMap Tryz.prog;have h0:(w.alloc (.map #[] 0)).ownsMap Tryz.prog 3 CO w.heap.size 0 (.map []):=World.ownsMap_made _ _ _ _;have hb0:Below w.heap.size w (w.alloc (.map #[] 0)):=ak _ _;go_enter Tryz.func211,Tryz.ntmps211;go_wp2_with (refine Sd _ rfl _ _ _ 215 rfl 3 218 (int_keyed Tryz.underlying3) Tryz.underlying215 CO w.heap.size 0 (.map []) rfl h0 (by unfold maxLen;omega) _ _ (.int .i64 1) rfl rfl (keyOf_int_mk Tryz.underlying3 (by decide)) (.lit (.int .i64 (213:Nat))) [] rfl ?_);intro w1 h1 g1;go_wp2_with (refine Sd _ rfl _ _ _ 215 rfl 3 218 (int_keyed Tryz.underlying3) Tryz.underlying215 CO w.heap.size 1 _ rfl h1 (by unfold maxLen;omega) _ _ (.int .i64 2) rfl rfl (keyOf_int_mk Tryz.underlying3 (by decide)) (.lit (.int .i64 (215:Nat))) [] rfl ?_);intro w2 h2 g2;go_wp2_with (refine Sd _ rfl _ _ _ 215 rfl 3 218 (int_keyed Tryz.underlying3) Tryz.underlying215 CO w.heap.size 2 _ rfl h2 (by unfold maxLen;omega) _ _ (.int .i64 3) rfl rfl (keyOf_int_mk Tryz.underlying3 (by decide)) (.lit (.int .i64 (216:Nat))) [] rfl ?_);intro w3 h3 g3;go_wp2_with (refine Sd _ rfl _ _ _ 215 rfl 3 218 (int_keyed Tryz.underlying3) Tryz.underlying215 CO w.heap.size 3 _ rfl h3 (by unfold maxLen;omega) _ _ (.int .i64 4) rfl rfl (keyOf_int_mk Tryz.underlying3 (by decide)) (.lit (.int .i64 (218:Nat))) [] rfl ?_);intro w4 h4 g4;go_wp2_with (refine Sd _ rfl _ _ _ 215 rfl 3 218 (int_keyed Tryz.underlying3) Tryz.underlying215 CO w.heap.size 4 _ rfl h4 (by unfold maxLen;omega) _ _ (.int .i64 5) rfl rfl (keyOf_int_mk Tryz.underlying3 (by decide)) (.lit (.int .i64 (219:Nat))) [] rfl ?_);intro w5 h5 g5;go_wp2_with fail;go_ret;have s0:=hb0.size;have s1:=g1.size;have s2:=g2.size;have s3:=g3.size;have s4:=g4.size;have key:∀k,some w.heap.size=some k→w.heap.size≤k:=fun k hk=>by cases hk;exact Nat.le_refl _
 exact⟨w.heap.size,rfl,h5,((((hb0.grown g1 (by omega) key).grown g2 (by omega) key).grown g3 (by omega) key).grown g4 (by omega) key).grown g5 (by omega) key,Nat.le_refl _⟩
theorem abW (b j:Nat) (d:ByteArray) (m:Int) (w:World) (hd:d.size≤9223372036854775807) (hc:∃s,w.cell? ⟨b,j,none⟩=some (.string s)) (hf:w.frozen? ⟨b,j,none⟩=false):
  Calls Tryz.prog 214 #[.pointer (some ⟨b,j,none⟩),.string d,.int .i64 m] w fun e w'=>e= .returned (.bool (rV d m))∧w.setCell ⟨b,j,none⟩ (.string d)=w':=by
 obtain⟨s,hc⟩:=hc;have p1:=agn d m hd;go_enter Tryz.func214,Tryz.ntmps214;go_wp2_with fail
 ((with_reducible refine(p1 _).mono ?_);rintro e w1 ⟨rfl,rfl⟩)
 go_wp2_with fail;go_ret;exact⟨rfl,rfl⟩
def Jg (d:ByteArray):Bool:=decide (0<jM d.data.toList)
theorem ahX (b j:Nat) (d:ByteArray) (w:World) (hd:d.size≤maxLen) (hc:∃n,w.cell? ⟨b,j,none⟩=some (.int .i64 n)) (hf:w.frozen? ⟨b,j,none⟩=false):
  Calls Tryz.prog 217 #[.pointer (some ⟨b,j,none⟩),.string d] w fun e w'=>e= .returned (.bool (Jg d))∧∃(n:Nat) (w1:World),(Jg d=true→n=jM d.data.toList)∧Below w.heap.size w w1∧w1.setCell ⟨b,j,none⟩ (.int .i64 n)=w':=by
 obtain⟨s,hc⟩:=hc;have hlt:=lt_of_cell (a:=⟨b,j,none⟩) hc;have p1:=R_ d hd;have he:=NU d.data.toList;have hl:d.data.toList.length=d.size:=by simp
 obtain⟨W,hW⟩:=aQ (jM d.data.toList);have hB:Jg d=decide (0<W):=by unfold Jg;rw[hW]
 rw[hB,hW];clear hB;unfold jM at hW;rw[hl]at hW;clear hl;unfold maxLen at hd;generalize(bY d.data.toList).1=n at*;generalize(bY d.data.toList).2.1=k at*;generalize(bY d.data.toList).2.2=x at*;have HW:=ah hW;clear hW;rcases he with rfl|rfl|rfl
 ·by_cases hk:k=d.size
  ·have HE:Hid (W=n):=by have:=HW.out;rw[if_pos ⟨rfl,hk⟩]at this;exact this.symm
   have e1:((k:Int)==(d.size:Int))=true:=by simp;omega
   clear hk
   by_cases h0:0<n
   ·have h0':0<(n:Int):=by omega
    go_enter Tryz.func217,Tryz.ntmps217;go_wp2_with fail;refine(p1 _).mono ?_;rintro e w1 ⟨rfl,b1⟩;have hc1:=(b1.cell (p:=⟨b,j,none⟩) hlt).trans hc;have hf1:=(b1.frozen (p:=⟨b,j,none⟩) hlt).trans hf;go_wp2_with fail;go_ret;exact⟨bC (by rw[HE.out];simp;omega),n,w1,fun _=>HE.out.symm,b1,rfl⟩
   ·have h0':decide (0<(n:Int))=false:=by simp;omega
    have avB:decide (0<n)=false:=by simp;omega
    go_enter Tryz.func217,Tryz.ntmps217;go_wp2_with fail;refine(p1 _).mono ?_;rintro e w1 ⟨rfl,b1⟩;have hc1:=(b1.cell (p:=⟨b,j,none⟩) hlt).trans hc;have hf1:=(b1.frozen (p:=⟨b,j,none⟩) hlt).trans hf;go_wp2_with fail;go_ret;exact⟨bC (by rw[HE.out];simp;omega),n,w1,fun _=>HE.out.symm,b1,rfl⟩
  ·have HE:Hid (W=0):=by have:=HW.out;rw[if_neg (fun h=>hk h.2)]at this;exact this.symm
   have e1:((k:Int)==(d.size:Int))=false:=by simp;omega
   clear hk;go_enter Tryz.func217,Tryz.ntmps217;go_wp2_with fail;refine(p1 _).mono ?_;rintro e w1 ⟨rfl,b1⟩;have hc1:=(b1.cell (p:=⟨b,j,none⟩) hlt).trans hc;have hf1:=(b1.frozen (p:=⟨b,j,none⟩) hlt).trans hf;go_wp2_with fail;go_ret;exact⟨bC (by rw[HE.out];rfl),n,w1,fun h=>(by rw[HE.out]at h;cases h),b1,rfl⟩
 all_goals
  have HE:Hid (W=0):=by have:=HW.out;rw[if_neg (fun h=>by omega)]at this;exact this.symm
  go_enter Tryz.func217,Tryz.ntmps217;go_wp2_with fail;refine(p1 _).mono ?_;rintro e w1 ⟨rfl,b1⟩;have hc1:=(b1.cell (p:=⟨b,j,none⟩) hlt).trans hc;have hf1:=(b1.frozen (p:=⟨b,j,none⟩) hlt).trans hf;go_wp2_with fail;go_ret;exact⟨bC (by rw[HE.out];rfl),n,w1,fun h=>(by rw[HE.out]at h;cases h),b1,rfl⟩
def cO (w:World) (b:Nat) (r:au) (x:Value):Prop:=w.heap[b]? =some (.cells (aC r x) 68 (0,0))
theorem cO.kept {w w':World} {b:Nat} {r:au} {x:Value} {row:Option Nat} (h:cO w b r x) (hg:w.grownBy w' row) (hne:some b≠row):cO w' b r x:=Eq.trans (hg.block b (fF h) hne) h
theorem cO.below {w w':World} {b:Nat} {r:au} {x:Value} (h:cO w b r x) (hb:Below w.heap.size w w'):cO w' b r x:=Eq.trans (hb.block b (fF h)) h
theorem cO.alloc {w:World} {b:Nat} {r:au} {x:Value} (h:cO w b r x) (o:Obj):cO (w.alloc o) b r x:=h.below ((Below.refl _ _).alloc (Nat.le_refl _) o)
theorem cO.cells {w:World} {b:Nat} {r:au} {x:Value} (h:cO w b r x):w.cell? ⟨b,0,none⟩=some (.string r.key)∧w.cell? ⟨b,1,none⟩=some (.string r.value)∧w.cell? ⟨b,2,none⟩=some (.int .i64 r.rev)∧w.cell? ⟨b,3,none⟩=some (.int .i64 r.life)∧w.cell? ⟨b,4,none⟩=some (.string r.note)∧w.cell? ⟨b,5,none⟩=some x:=
 ⟨bJ h 0,bJ h 1,bJ h 2,bJ h 3,bJ h 4,bJ h 5⟩
theorem cO.frozen {w:World} {b:Nat} {r:au} {x:Value} (h:cO w b r x) (j:Nat):w.frozen? ⟨b,j,none⟩=false:=rF h j
theorem Qt {w w1:World} {b j:Nat} {v:Value} (h:Below w.heap.size w w1):w.grownBy (w1.setCell ⟨b,j,none⟩ v) (some b):=
 ⟨h.os,h.tape,h.output,by simpa using h.size,fun i hi hne=>(heap_setCell_other w1 ⟨b,j,none⟩ i v (fun e=>hne (by rw[e]))).trans (h.block i hi)⟩
theorem aqT (d:ByteArray):okD 1 d=rV d 16:=by rw[Bool.eq_iff_iff,Nn];unfold rV;simp;omega
theorem aqU (d:ByteArray):okD 2 d=rV d 200:=by rw[Bool.eq_iff_iff,Np];unfold rV;simp;omega
theorem aqX (d:ByteArray):okD 5 d=rV d 40:=by rw[Bool.eq_iff_iff,RN];unfold rV;simp;omega
theorem aqV (d:ByteArray):okD 3 d=Jg d:=by rw[Bool.eq_iff_iff,Nq];unfold Jg;simp
theorem aqW (d:ByteArray):okD 4 d=Jg d:=by rw[Bool.eq_iff_iff,RL];unfold Jg;simp
def Mq (b:Nat) (r:au) (x:Value) (t:Int) (d:ByteArray) (w:World) (e:Ending) (w':World):Prop:=
 e= .returned (.bool (okD t d))∧(okD t d=true→cO w' b (BL r t d) x)∧w.grownBy w' (some b)
theorem as8 (b:Nat) (r:au) (x:Value) (d:ByteArray) (w:World) (hd:d.size≤9223372036854775807) (h:cO w b r x):
  Calls Tryz.prog 213 #[.pointer (some ⟨b,0,none⟩),.string d] w (Mq b r x 1 d w):=by
 have p1:=abW b 0 d 16 w hd ⟨_,(h.cells).1⟩ (h.frozen 0);rw[←aqT]at p1;have HB:=ah h;clear h;obtain⟨q,hq⟩:∃q,okD 1 d=q:=⟨_,rfl⟩;rw[hq]at p1;have HQ:=ah hq;clear hq;go_enter Tryz.func213,Tryz.ntmps213;go_wp2_with fail
 ((with_reducible refine p1.mono ?_);rintro e w1 ⟨rfl,rfl⟩)
 go_wp2_with fail;go_ret;exact⟨bC HQ.out.symm,fun _=>heap_setCell_same w b 0 _ _ _ HB.out,Qt (Below.refl _ _)⟩
theorem as9 (b:Nat) (r:au) (x:Value) (d:ByteArray) (w:World) (hd:d.size≤9223372036854775807) (h:cO w b r x):
  Calls Tryz.prog 215 #[.pointer (some ⟨b,0,none⟩),.string d] w (Mq b r x 2 d w):=by
 have p1:=abW b 1 d 200 w hd ⟨_,(h.cells).2.1⟩ (h.frozen 1);rw[←aqU]at p1;have HB:=ah h;clear h;obtain⟨q,hq⟩:∃q,okD 2 d=q:=⟨_,rfl⟩;rw[hq]at p1;have HQ:=ah hq;clear hq;go_enter Tryz.func215,Tryz.ntmps215;go_wp2_with fail
 ((with_reducible refine p1.mono ?_);rintro e w1 ⟨rfl,rfl⟩)
 go_wp2_with fail;go_ret;exact⟨bC HQ.out.symm,fun _=>heap_setCell_same w b 1 _ _ _ HB.out,Qt (Below.refl _ _)⟩
theorem atb (b:Nat) (r:au) (x:Value) (d:ByteArray) (w:World) (hd:d.size≤9223372036854775807) (h:cO w b r x):
  Calls Tryz.prog 219 #[.pointer (some ⟨b,0,none⟩),.string d] w (Mq b r x 5 d w):=by
 have p1:=abW b 4 d 40 w hd ⟨_,(h.cells).2.2.2.2.1⟩ (h.frozen 4);rw[←aqX]at p1;have HB:=ah h;clear h;obtain⟨q,hq⟩:∃q,okD 5 d=q:=⟨_,rfl⟩;rw[hq]at p1;have HQ:=ah hq;clear hq;go_enter Tryz.func219,Tryz.ntmps219;go_wp2_with fail
 ((with_reducible refine p1.mono ?_);rintro e w1 ⟨rfl,rfl⟩)
 go_wp2_with fail;go_ret;exact⟨bC HQ.out.symm,fun _=>heap_setCell_same w b 4 _ _ _ HB.out,Qt (Below.refl _ _)⟩
theorem as_ (b:Nat) (r:au) (x:Value) (d:ByteArray) (w:World) (hd:d.size≤maxLen) (h:cO w b r x):
  Calls Tryz.prog 216 #[.pointer (some ⟨b,0,none⟩),.string d] w (Mq b r x 3 d w):=by
 have p1:=ahX b 2 d w hd ⟨_,(h.cells).2.2.1⟩ (h.frozen 2);rw[←aqV]at p1;have HB:=ah h;clear h;obtain⟨q,hq⟩:∃q,okD 3 d=q:=⟨_,rfl⟩;rw[hq]at p1;have HQ:=ah hq;clear hq;go_enter Tryz.func216,Tryz.ntmps216;go_wp2_with fail
 ((with_reducible refine p1.mono ?_);rintro e w1 ⟨rfl,n,w2,hn,b1,rfl⟩)
 have HN:=ah hn;clear hn;go_wp2_with fail;go_ret;refine⟨bC HQ.out.symm,fun hk=>?_,Qt b1⟩;have h2:cO w2 b r x:=HB.out.below b1;have h3:=HN.out (HQ.out▸hk);subst h3;exact heap_setCell_same w2 b 2 _ _ _ h2
theorem ata (b:Nat) (r:au) (x:Value) (d:ByteArray) (w:World) (hd:d.size≤maxLen) (h:cO w b r x):
  Calls Tryz.prog 218 #[.pointer (some ⟨b,0,none⟩),.string d] w (Mq b r x 4 d w):=by
 have p1:=ahX b 3 d w hd ⟨_,(h.cells).2.2.2.1⟩ (h.frozen 3);rw[←aqW]at p1;have HB:=ah h;clear h;obtain⟨q,hq⟩:∃q,okD 4 d=q:=⟨_,rfl⟩;rw[hq]at p1;have HQ:=ah hq;clear hq;go_enter Tryz.func218,Tryz.ntmps218;go_wp2_with fail
 ((with_reducible refine p1.mono ?_);rintro e w1 ⟨rfl,n,w2,hn,b1,rfl⟩)
 have HN:=ah hn;clear hn;go_wp2_with fail;go_ret;refine⟨bC HQ.out.symm,fun hk=>?_,Qt b1⟩;have h2:cO w2 b r x:=HB.out.below b1;have h3:=HN.out (HQ.out▸hk);subst h3;exact heap_setCell_same w2 b 3 _ _ _ h2
open Go.Maps (Keyed int_keyed keyOf_int_mk)
theorem Uf (v:Int):∀(l:List aT) (r:au),(∀f∈(l.foldl (j6 v) r).extra,f∈r.extra∨f∈l)∧(l.foldl (j6 v) r).extra.length≤r.extra.length+l.length:=by
 intro l
 induction l with
 |nil=>intro r;exact⟨fun f hf=>.inl hf,by simp⟩
 |cons g l ih=>
  intro r;rw[List.foldl_cons];obtain⟨h1,h2⟩:=ih (j6 v r g);have hs:(j6 v r g).extra=r.extra∨(j6 v r g).extra=r.extra++[g]:=by
   unfold j6
   cases fE v g.1 with
   |true=>
    left;unfold BL;simp only[if_true];split
    ·rfl
    ·split
     ·rfl
     ·split
      ·rfl
      ·split<;>rfl
   |false=>right;rfl
  refine⟨fun f hf=>?_,?_⟩
  ·rcases h1 f hf with h|h
   ·rcases hs with hs|hs
    ·rw[hs]at h;exact .inl h
    ·rw[hs]at h;rcases List.mem_append.1 h with h|h
     ·exact .inl h
     ·exact .inr (by rw[List.mem_singleton]at h;rw[h];exact List.mem_cons_self)
   ·exact .inr (List.mem_cons_of_mem _ h)
  ·rw[List.length_cons];rcases hs with hs|hs<;>rw[hs]at h2
   ·omega
   ·rw[List.length_append,List.length_singleton]at h2;omega
theorem ad7 {v:Int} {fs:List aT} (h:kP fs) (k:Nat):kP (iW v (fs.take k)).extra:=fun f hf=>by
 rcases(Uf v (fs.take k) dL).1 f hf with h2|h2
 ·cases h2
 ·exact h f (List.mem_of_mem_take h2)
theorem al4 (v:Int) (fs:List aT) (k:Nat):(iW v (fs.take k)).extra.length≤k:=by
 have:=(Uf v (fs.take k) dL).2;have h2:(fs.take k).length≤k:=List.length_take_le _ _;have h3:dL.extra.length=0:=rfl;unfold iW;omega
theorem atc (r:au) (t:Int) (d:ByteArray):(BL r t d).extra=r.extra:=by
 unfold BL;split
 ·rfl
 ·split
  ·rfl
  ·split
   ·rfl
   ·split<;>rfl
theorem abQ {v:Int} {r:au} {t:Int} {d:ByteArray} (h:fE v t=true):j6 v r (t,d)=BL r t d:=by unfold j6;rw[if_pos h]
theorem ahV {v:Int} {r:au} {t:Int} {d:ByteArray} (h:fE v t=false):j6 v r (t,d)={ r with extra:=r.extra++[(t,d)] }:=by unfold j6;simp[h]
theorem R6 {P:Program} {f:FuncId} {fn:Func} (hf:P.funcs[f]? =some fn) (hname:(fn.name== "runtime.NumGoroutine")=false) (hb:fn.body.isNone=false) (args:Array Value) (w:World):
  (callFunc f args).run P w= .ok (.enter f args) w:=by
 have h1:fn.name≠ "runtime.NumGoroutine" :=by simpa using hname
 have h2:fn.body≠none:=by intro h;rw[h]at hb;cases hb
 simp[callFunc,hf,h1,h2]
theorem cf1 (args:Array Value) (w:World):(callFunc 213 args).run Tryz.prog w= .ok (.enter 213 args) w:=R6 Tryz.func213 (by kernel_rfl) (by kernel_rfl) args w
theorem cf2 (args:Array Value) (w:World):(callFunc 215 args).run Tryz.prog w= .ok (.enter 215 args) w:=R6 Tryz.func215 (by kernel_rfl) (by kernel_rfl) args w
theorem cf3 (args:Array Value) (w:World):(callFunc 216 args).run Tryz.prog w= .ok (.enter 216 args) w:=R6 Tryz.func216 (by kernel_rfl) (by kernel_rfl) args w
theorem cf4 (args:Array Value) (w:World):(callFunc 218 args).run Tryz.prog w= .ok (.enter 218 args) w:=R6 Tryz.func218 (by kernel_rfl) (by kernel_rfl) args w
theorem cf5 (args:Array Value) (w:World):(callFunc 219 args).run Tryz.prog w= .ok (.enter 219 args) w:=R6 Tryz.func219 (by kernel_rfl) (by kernel_rfl) args w
theorem abO {A B:Option Addr} {n m c d:Nat} (h:Value.slice A n c= .slice B m d):A=B:=by cases h;rfl
def NewAt (B:Nat) (A:Option Addr):Prop:=∀b off,A=some ⟨b,off,none⟩→B≤b
theorem Dk (B:Nat):NewAt B none:=fun b off h=>by cases h
theorem Vp {w:World} {base B n cap n':Nat} {A:Option Addr} {e:TypeId} {xs:List Value} {sz:Nat} (h:w.ownsRow base e sz (.slice A n cap) n' xs) (hB:B≤base):NewAt B A:=fun b off hA=>by
 subst hA;exact Nat.le_trans hB (h.lt b rfl).1
def alV (w:World) (ok:Bool) (r:au) (e:Ending) (w':World):Prop:=
 ∃A n cap,e= .returned (.tuple #[iL (if ok then r else dL) (.slice A n cap),.bool ok])∧n≤cap∧dh w' A n (if ok then r else dL).extra∧NewAt w.heap.size A∧Below w.heap.size w w'
theorem ar5 (v:Int) (A:Option Addr) (n cap:Nat) (fs:List aT) (w:World) (h:dh w A n fs) (h64:n≤64):
  Calls Tryz.prog 206 #[.int .i64 v,.slice A n cap] w (alV w (nU v fs) (iW v fs)):=by
 obtain⟨hn,hm,hwf,hc⟩:=h;clear hm;have HN:=ah hn;clear hn;have HC:=ah hc;clear hc;have hbZ:Below w.heap.size w ((w.alloc (.cells z6 68)).alloc (.cells z6 68)):=(ak _ _).alloc (by simp) _;have hz0:cO ((w.alloc (.cells z6 68)).alloc (.cells z6 68)) w.heap.size dL (.slice none 0 0):=cO.alloc (show cO (w.alloc (.cells z6 68)) w.heap.size dL (.slice none 0 0)from World.alloc_heap_new w _) _;have hr0:cO ((w.alloc (.cells z6 68)).alloc (.cells z6 68)) (w.heap.size+1) dL (.slice none 0 0):=by
  have hx:=World.alloc_heap_new (w.alloc (.cells z6 68)) (.cells z6 68);rw[show(w.alloc (.cells z6 68)).heap.size=w.heap.size+1 from by simp]at hx;exact hx
 have hsz2:((w.alloc (.cells z6 68)).alloc (.cells z6 68)).heap.size=w.heap.size+2:=by simp
 have p0:=amu ((w.alloc (.cells z6 68)).alloc (.cells z6 68));have HZ0:=ah hz0;have nM:=ah hr0;have HS2:=ah hsz2;clear hz0 hr0 hsz2;go_enter Tryz.func206,Tryz.ntmps206;go_wp2_with fail
 ((with_reducible refine p0.mono ?_);rintro e w1 ⟨bm,rfl,hmap,b1,FM⟩)
 clear p0;have hs1:w.heap.size+2≤w1.heap.size:=by have:=b1.size;have:=HS2.out;omega
 have avD:w.heap.size+2≤bm:=by have:=HS2.out;omega
 have apl:bm<w1.heap.size:=hmap.lt;have hz1:=HZ0.out.below b1;have hr1:=nM.out.below b1;have hb1:Below w.heap.size w w1:=aA hbZ b1;clear hbZ HZ0 nM HS2 b1 FM;go_wp2_with fail;go_loopw [13] (fun i wr=>∃(k:Nat) (x:Value),k≤n∧i= .int .i64 k∧cO wr (w.heap.size+1) (iW v (fs.take k)) x∧wr.ownsRow w1.heap.size 65 2 x (iW v (fs.take k)).extra.length (iP (iW v (fs.take k)).extra)∧wr.ownsMap Tryz.prog 3 CO bm 5 Fw∧cO wr w.heap.size dL (.slice none 0 0)∧w1.heap.size≤wr.heap.size∧Hid (∀j,j<k→fE v (tg fs j)=true→okD (tg fs j) (dt fs j)=true)∧Below w.heap.size w wr) (fun i _=>n-(intOf i).toNat)
 case atStart=>exact⟨0,.slice none 0 0,by omega,rfl,hr1,World.ownsRow_nil _ _ _ _,hmap,hz1,Nat.le_refl _,fun j hj=>by omega,hb1⟩
 case round=>
  clear hmap hz1 hr1 hb1;obtain⟨k,x,hk,rfl,hrb,hown,hmp,hzb,hsz,hno,hbw⟩:=hrel;obtain⟨A1,dP,hv,hcap,hfs⟩:=sV hown (ad7 hwf k);subst hv;have hlx:=al4 v fs k;have Es:=ad7 (v:=v) hwf k
  by_cases hlt:k<n
  ·obtain⟨b,off,hA,hb,hat⟩:=HC.out (by omega);subst hA;have HK:Hid (k<fs.length):=by have:=HN.out;show k<fs.length;omega
   obtain⟨c1,c2⟩:wr.cell? ⟨b,off+k*2,none⟩=some (.int .i64 (tg fs k))∧wr.cell? ⟨b,off+k*2+1,none⟩=some (.string (dt fs k)):=by
    have h:=hat k HK.out;exact⟨(hbw.cell (p:=⟨b,off+k*2,none⟩) hb).trans h.1,(hbw.cell (p:=⟨b,off+k*2+1,none⟩) hb).trans h.2⟩
   clear hat;have hstep:=al3 (v:=v) HK.out;have hwt:=abY hwf HK.out;have hsd:=Qr hwf HK.out;have p1:=agu v (tg fs k);have bA:Hid (fE v (tg fs k)=true→okD (tg fs k) (dt fs k)=false→nU v fs=false):=fun h1 h2=>ag5 (fun h=>by have:=h.1 k HK.out h1;rw[h2]at this;cases this);have iF:Hid ((fE v (tg fs k)=true→okD (tg fs k) (dt fs k)=true)→∀j,j<k+1→fE v (tg fs j)=true→okD (tg fs j) (dt fs j)=true):=fun h j hj=>by
    rcases Nat.lt_or_ge j k with h2|h2
    ·exact hno.out j h2
    ·rw[show j=k by omega];exact h
   clear hno;generalize tg fs k=t at*;generalize dt fs k=d at*;obtain⟨R,hR⟩:∃R,iW v (fs.take k)=R:=⟨_,rfl⟩;rw[hR]at hrb hown hfs hlx hstep hcap Es;clear hR;have uT:=ah hstep;clear hstep;have yR:=hrb.alloc (.cells #[.int .i64 t,.string d] 65);have KQ:=hzb.alloc (.cells #[.int .i64 t,.string d] 65);have Q5:=hmp.alloc (.cells #[.int .i64 t,.string d] 65);have hown2:=hown.alloc (.cells #[.int .i64 t,.string d] 65);have hbw2:=hbw.alloc hbw.size (.cells #[.int .i64 t,.string d] 65);have hsz2:w1.heap.size≤(wr.alloc (.cells #[.int .i64 t,.string d] 65)).heap.size:=by simp;omega
   cases hK:fE v t with
   |false=>
    rw[hK]at p1;have lT:=iF.out (fun h=>by rw[hK]at h;cases h);have HR2:Hid (iW v (fs.take (k+1))={ R with extra:=R.extra++[(t,d)] }):=uT.out.trans (ahV hK);clear hK uT hmp hzb hrb;have hown3:=hown2.alloc (.cells #[.int .i64 t,.string d] 65);have vB:=yR.alloc (.cells #[.int .i64 t,.string d] 65);have yT:=KQ.alloc (.cells #[.int .i64 t,.string d] 65);have afT:=Q5.alloc (.cells #[.int .i64 t,.string d] 65);have II:=hbw2.alloc hbw2.size (.cells #[.int .i64 t,.string d] 65);have hone:dh ((wr.alloc (.cells #[.int .i64 t,.string d] 65)).alloc (.cells #[.int .i64 t,.string d] 65)) (some ⟨wr.heap.size+1,0,none⟩) 1 [(t,d)]:=by
     have hx:=World.alloc_heap_new (wr.alloc (.cells #[.int .i64 t,.string d] 65)) (.cells #[.int .i64 t,.string d] 65);rw[show(wr.alloc (.cells #[.int .i64 t,.string d] 65)).heap.size=wr.heap.size+1 from by simp]at hx;exact Nh (bJ hx 0) (bJ hx 1) hwt hsd
    have Va:w1.heap.size≤((wr.alloc (.cells #[.int .i64 t,.string d] 65)).alloc (.cells #[.int .i64 t,.string d] 65)).heap.size:=by simp;omega
    have c5:=yR.cells.2.2.2.2.2;have acY:=ah hown3.lt;have akv:=ah vB;have alh:=ah yT;clear vB yT yR KQ;go_wp2_with fail
    ((with_reducible refine(p1 _).mono ?_);rintro e w' ⟨rfl,rfl⟩)
    go_wp2_with (at_builtin;refine Lj rfl _ _ rfl w1.heap.size _ R.extra rfl hown3 (some ⟨wr.heap.size+1,0,none⟩) 1 1 [(t,d)] rfl hone (by omega) Va ?_);intro v' V2 Ai hgrow;obtain⟨A2,cap2,hv,hcap2,_⟩:=sV Ai (Es.append (fun f hf=>by rw[List.mem_singleton]at hf;subst hf;exact⟨hwt,hsd⟩));subst hv;have hne1:∀q:Nat,q<w1.heap.size→some q≠(Value.slice A1 R.extra.length dP).ownBlock:=fun q hq he=>by
     have:=(acY.out q he.symm).1;omega
    have Bz:=akv.out.kept hgrow (hne1 _ (by omega));have mG:=alh.out.kept hgrow (hne1 _ (by omega));have U5:=afT.kept hgrow (hne1 _ apl);have Eo:=II.grown hgrow (by have:=II.size;omega) (fun g hg=>by have:=(acY.out g hg).1;omega);have Qe:=Bz.cells.2.2.2.2.2;have Z9:=Bz.frozen 5;have hszz:=hgrow.size;clear hone hown3 afT II hown2 Q5 hbw2 hown hbw hfs;go_wp2_with fail;go_roundw
    case rel=>
     refine⟨k+1,.slice A2 (R.extra.length+1) cap2,by omega,by go_num,?_,?_,?_,?_,?_,lT,?_⟩
     ·rw[HR2.out];exact heap_setCell_same V2 (w.heap.size+1) 5 _ _ _ Bz
     ·rw[HR2.out];exact ownsRow_setCell_below (a:=⟨w.heap.size+1,5,none⟩) (by simpa[List.length_append]using Ai) (by show w.heap.size+1<_;omega) _
     ·exact U5.setCell (a:=⟨w.heap.size+1,5,none⟩) (by show bm≠w.heap.size+1;omega) _
     ·exact Eq.trans (heap_setCell_other V2 ⟨w.heap.size+1,5,none⟩ w.heap.size _ (by show w.heap.size≠w.heap.size+1;omega)) mG
     ·simp;omega
     ·exact Eo.setCell (p:=⟨w.heap.size+1,5,none⟩) (by show w.heap.size≤w.heap.size+1;omega) _
    case measure=>simp[intOf];omega
   |true=>
    rw[hK]at p1;have hnk:=bA.out hK;have hnx:okD t d=true→Hid (∀j,j<k+1→fE v (tg fs j)=true→okD (tg fs j) (dt fs j)=true):=fun h=>iF.out (fun _=>h);have HR2:Hid (iW v (fs.take (k+1))=BL R t d):=uT.out.trans (abQ hK);have hse:=atc R t d;have Er:t=1∨t=2∨t=3∨t=4∨t=5:=by have:=BG.1 hK;have:=Dq v;omega
    have NK:=ah hnk;have NX:=ah hnx;have SE:=ah hse;clear hK uT hnk hnx hse bA iF hmp hzb hrb hown hbw;obtain⟨lk,hlk⟩:∃f:Nat,Fw.atKey (.int .i64 t) (.lit (.bool false))= .lit (.int .i64 (f:Int))∧(∀args W,(callFunc f args).run Tryz.prog W= .ok (.enter f args) W)∧(∀W x,cO W (w.heap.size+1) R x→Calls Tryz.prog f #[.pointer (some ⟨w.heap.size+1,0,none⟩),.string d] W (Mq (w.heap.size+1) R x t d W)):=by
     rcases Er with rfl|rfl|rfl|rfl|rfl
     ·exact⟨_,amo,cf1,fun W x h=>as8 _ R x d W hsd h⟩
     ·exact⟨_,amq,cf2,fun W x h=>as9 _ R x d W hsd h⟩
     ·exact⟨_,amr,cf3,fun W x h=>as_ _ R x d W (by unfold maxLen;omega) h⟩
     ·exact⟨_,ams,cf4,fun W x h=>ata _ R x d W (by unfold maxLen;omega) h⟩
     ·exact⟨_,amt,cf5,fun W x h=>atb _ R x d W hsd h⟩
    clear Er;obtain⟨hat,hcf,agW⟩:=hlk;have p2:=agW _ _ yR;clear agW;go_wp2_with fail
    ((with_reducible refine(p1 _).mono ?_);rintro e w' ⟨rfl,rfl⟩)
    go_wp2_with (refine au0 _ rfl _ _ 215 rfl 3 218 (int_keyed Tryz.underlying3) Tryz.underlying215 (au_ _) bm 5 Fw rfl Q5 _ (.int .i64 t) rfl (keyOf_int_mk Tryz.underlying3 hwt) lk hat ?_);go_wp2_with fail
    ((with_reducible refine p2.mono ?_);rintro e w2 ⟨rfl,hset,hgrow⟩)
    have U5:=Q5.kept hgrow (by simp;omega);have mG:=KQ.kept hgrow (by simp);have Ai:=hown2.kept hgrow (by
     right;intro he;have:=(hown2.lt _ he).1;omega)
    have Eo:=hbw2.grown hgrow hbw2.size (fun g hg=>by simp only[Option.some.injEq]at hg;omega);have hszz:=hgrow.size;clear p2 hat hcf Q5 KQ yR hown2 hbw2
    cases hO:okD t d with
    |true=>
     have Bz:=hset hO;have lT:=NX.out hO;clear hset;go_wp2_with fail;go_roundw
     case rel=>
      refine⟨k+1,.slice A1 R.extra.length dP,by omega,by go_num,?_,?_,U5,mG,by omega,lT,Eo⟩
      ·rw[HR2.out];exact Bz
      ·rw[HR2.out,SE.out];exact Ai
     case measure=>simp[intOf];omega
    |false=>
     have hF:=NK.out hO;have HF:=ah hF;obtain⟨z0,z1,z2,z3,z4,z5⟩:=mG.cells;have f0:=mG.frozen 0;have f1:=mG.frozen 1;have f2:=mG.frozen 2;have f3:=mG.frozen 3;have f4:=mG.frozen 4;have f5:=mG.frozen 5;have bU:=ah Eo;simp only[dL]at z0 z1 z2 z3 z4;clear hF hset hO U5 mG Ai Eo;go_wp2_with fail;refine bodyPost_ret (v:=.tuple #[.agg z6,.bool false]) (by simp[results,Tryz.results206,go_sem,z0,z1,z2,z3,z4,z5]) rfl ⟨none,0,0,by rw[HF.out];rfl,Nat.le_refl _,by rw[HF.out];exact vE _ _,Dk _,?_⟩;exact(((((bU.out.setCell (Nat.le_refl _) _).setCell (Nat.le_refl _) _).setCell (Nat.le_refl _) _).setCell (Nat.le_refl _) _).setCell (Nat.le_refl _) _).setCell (Nat.le_refl _) _
  ·have hkn:n=k:=by omega
   subst hkn;have hT:fs.take n=fs:=by rw[HN.out,List.take_of_length_le (Nat.le_refl _)]
   rw[hT]at hrb hown hfs hcap hlx Es;have HP:Hid (few (iW v fs).extra≤8→nU v fs=true):=fun h=>K8.2 ⟨by have:=hno.out;rw[HN.out]at this;exact this,h⟩;have HQ:Hid (¬few (iW v fs).extra≤8→nU v fs=false):=fun h=>ag5 (fun h2=>h h2.2);clear hT hno;generalize iW v fs=R at*;have p1:=Z_ A1 R.extra.length dP R.extra wr hfs;have c5:=hrb.cells.2.2.2.2.2;have tX:=ah hfs;have HOWN:=ah hown;have uU:=ah Es;have mQ:=ah hrb;have gQ:=ah hzb;have hx0:=fF hrb;have hx1:=fF hzb;clear hfs hrb hzb hown hmp Es
   by_cases h8:few R.extra≤8
   ·have HF:=ah (HP.out h8);rw[show decide (few R.extra≤8)=true from by simpa using h8]at p1;clear h8;go_wp2_with fail
    ((with_reducible refine p1.mono ?_);rintro e w2 ⟨rfl,b2⟩)
    have mG:=gQ.out.below b2;have Bz:=mQ.out.below b2;have Xp:=ah (tX.out.below b2);obtain⟨z0,z1,z2,z3,z4,z5⟩:=mG.cells;obtain⟨y0,y1,y2,y3,y4,y5⟩:=Bz.cells;have f0:=mG.frozen 0;have f1:=mG.frozen 1;have f2:=mG.frozen 2;have f3:=mG.frozen 3;have f4:=mG.frozen 4;have f5:=mG.frozen 5;have bU:=ah (aA hbw b2);simp only[dL]at z0 z1 z2 z3 z4;clear p1 hbw mG Bz c5;go_wp2_with fail;refine bodyPost_ret (v:=.tuple #[iL R (.slice A1 R.extra.length dP),.bool true]) (by simp[results,Tryz.results206,go_sem,z0,z1,z2,z3,z4,z5]) rfl ⟨A1,R.extra.length,dP,by rw[HF.out];rfl,hcap,?_,Vp HOWN.out (by omega),?_⟩
    ·rw[HF.out];have hl:∀j:Nat,(⟨w.heap.size,j,none⟩:Addr).block<w1.heap.size:=fun j=>by show w.heap.size<_;omega
     have h0:=own_below HOWN.out b2;have h1:=ownsRow_setCell_below h0 (hl 0) (.string R.key);have h2:=ownsRow_setCell_below h1 (hl 1) (.string R.value);have h3:=ownsRow_setCell_below h2 (hl 2) (.int .i64 R.rev);have h4:=ownsRow_setCell_below h3 (hl 3) (.int .i64 R.life);have h5:=ownsRow_setCell_below h4 (hl 4) (.string R.note);have h:=ownsRow_setCell_below h5 (hl 5) (.slice A1 R.extra.length dP);obtain⟨A9,ML,gZ,_,Ep⟩:=sV h uU.out;have e1:=abO gZ;subst e1;exact Ep
    ·exact(((((bU.out.setCell (Nat.le_refl _) _).setCell (Nat.le_refl _) _).setCell (Nat.le_refl _) _).setCell (Nat.le_refl _) _).setCell (Nat.le_refl _) _).setCell (Nat.le_refl _) _
   ·have HF:=ah (HQ.out h8);rw[show decide (few R.extra≤8)=false from by simpa using h8]at p1;clear h8;go_wp2_with fail
    ((with_reducible refine p1.mono ?_);rintro e w2 ⟨rfl,b2⟩)
    have mG:=gQ.out.below b2;obtain⟨z0,z1,z2,z3,z4,z5⟩:=mG.cells;have f0:=mG.frozen 0;have f1:=mG.frozen 1;have f2:=mG.frozen 2;have f3:=mG.frozen 3;have f4:=mG.frozen 4;have f5:=mG.frozen 5;have bU:=ah (aA hbw b2);simp only[dL]at z0 z1 z2 z3 z4;clear p1 hbw mG c5;go_wp2_with fail;refine bodyPost_ret (v:=.tuple #[.agg z6,.bool false]) (by simp[results,Tryz.results206,go_sem,z0,z1,z2,z3,z4,z5]) rfl ⟨none,0,0,by rw[HF.out];rfl,Nat.le_refl _,by rw[HF.out];exact vE _ _,Dk _,?_⟩;exact(((((bU.out.setCell (Nat.le_refl _) _).setCell (Nat.le_refl _) _).setCell (Nat.le_refl _) _).setCell (Nat.le_refl _) _).setCell (Nat.le_refl _) _).setCell (Nat.le_refl _) _
def Ki (w:World) (r:au×Nat) (e:Ending) (w':World):Prop:=
 ∃A n cap,e= .returned (.tuple #[iL r.1 (.slice A n cap),.int .i64 r.2])∧n≤cap∧dh w' A n r.1.extra∧NewAt w.heap.size A∧Below w.heap.size w w'
theorem arY {v:Int} {s:List UInt8} (h:¬(v=1∨v=2)):dD v s=(dL,1):=by unfold dD;rw[if_pos h]
theorem arT {v:Int} {s:List UInt8} (h:v=1∨v=2) {fs:List aT} {e:Nat} (hd:nP s=(fs,e)) (he:e≠0):dD v s=(dL,e):=by
 unfold dD;rw[if_neg (fun h2=>h2 h),hd];simp only;rw[if_pos he]
theorem arU {v:Int} {s:List UInt8} (h:v=1∨v=2) {fs:List aT} (hd:nP s=(fs,0)) (hf:(oN fs 1).2=false):dD v s=(dL,20):=by
 unfold dD;rw[if_neg (fun h2=>h2 h),hd];simp only;rw[if_neg (by simp),if_pos hf]
theorem arV {v:Int} {s:List UInt8} (h:v=1∨v=2) {fs:List aT} (hd:nP s=(fs,0)) (hf:(oN fs 1).2=true) (hp:nU v fs=false):dD v s=(dL,21):=by
 unfold dD;rw[if_neg (fun h2=>h2 h),hd];simp only;rw[if_neg (by simp),if_neg (by simp[hf]),if_pos hp]
theorem arX {v:Int} {s:List UInt8} (h:v=1∨v=2) {fs:List aT} (hd:nP s=(fs,0)) (hf:(oN fs 1).2=true) (hp:nU v fs=true):dD v s=(iW v fs,0):=by
 unfold dD;rw[if_neg (fun h2=>h2 h),hd];simp only;rw[if_neg (by simp),if_neg (by simp[hf]),if_neg (by simp[hp])]
theorem I9 {w:World} {A:Option Addr} {n:Nat} {fs:List aT} (h:dh w A n fs) {B:Nat} (hB:∀b off,A=some ⟨b,off,none⟩→0<n→b≠B) (j:Nat) (u:Value):dh (w.setCell ⟨B,j,none⟩ u) A n fs:=by
 obtain⟨h1,h2,h3,h4⟩:=h;refine⟨h1,h2,h3,fun hn=>?_⟩;obtain⟨b,off,hA,hlt,hc⟩:=h4 hn;have hne:=hB b off hA hn;refine⟨b,off,hA,by simpa using hlt,fun i hi=>?_⟩;obtain⟨c1,c2⟩:=hc i hi;exact⟨(World.cell?_of_block (a:=⟨b,off+i*2,none⟩) (heap_setCell_other w ⟨B,j,none⟩ b u hne)).trans c1,(World.cell?_of_block (a:=⟨b,off+i*2+1,none⟩) (heap_setCell_other w ⟨B,j,none⟩ b u hne)).trans c2⟩
theorem Zy {B:Nat} {a w:World} (h:Below B a w) (u0 u1 u2 u3 u4 u5:Value):Below B a ((((((w.setCell ⟨B,0,none⟩ u0).setCell ⟨B,1,none⟩ u1).setCell ⟨B,2,none⟩ u2).setCell ⟨B,3,none⟩ u3).setCell ⟨B,4,none⟩ u4).setCell ⟨B,5,none⟩ u5):=
 (((((h.setCell (Nat.le_refl _) _).setCell (Nat.le_refl _) _).setCell (Nat.le_refl _) _).setCell (Nat.le_refl _) _).setCell (Nat.le_refl _) _).setCell (Nat.le_refl _) _
theorem Je {B B2:Nat} {A:Option Addr} {n:Nat} (h:NewAt B A) (hB:B2<B):∀b off,A=some ⟨b,off,none⟩→0<n→b≠B2:=fun b off hA _=>by have:=h b off hA;omega
theorem BD {w:World} {A:Option Addr} {n:Nat} {fs:List aT} (h:dh w A n fs) {B B2:Nat} (h2:NewAt B2 A) (hB:B<B2) (u0 u1 u2 u3 u4 u5:Value):dh ((((((w.setCell ⟨B,0,none⟩ u0).setCell ⟨B,1,none⟩ u1).setCell ⟨B,2,none⟩ u2).setCell ⟨B,3,none⟩ u3).setCell ⟨B,4,none⟩ u4).setCell ⟨B,5,none⟩ u5) A n fs:=
 I9 (I9 (I9 (I9 (I9 (I9 h (Je h2 hB) 0 u0) (Je h2 hB) 1 u1) (Je h2 hB) 2 u2) (Je h2 hB) 3 u3) (Je h2 hB) 4 u4) (Je h2 hB) 5 u5
theorem NewAt.mono {B B2:Nat} {A:Option Addr} (h:NewAt B A) (hB:B2≤B):NewAt B2 A:=fun b off hA=>Nat.le_trans hB (h b off hA)
theorem arM (v:Int) (s:ByteArray) (hs:s.size≤281474976710656) (w:World):
  Calls Tryz.prog 188 #[.int .i64 v,.string s] w (Ki w (dD v s.data.toList)):=by
 have p1:=aia v;have hz0:cO (w.alloc (.cells z6 68)) w.heap.size dL (.slice none 0 0):=World.alloc_heap_new w _;have hb0:Below w.heap.size w (w.alloc (.cells z6 68)):=ak _ _;have hsz0:(w.alloc (.cells z6 68)).heap.size=w.heap.size+1:=by simp
 have avt:=ah hsz0;clear hsz0
 cases h1:EF v with
 |false=>
  rw[h1]at p1;have HE:Hid (dD v s.data.toList=(dL,1)):=arY (by simpa[EF]using h1);clear h1 hb0 hz0;go_enter Tryz.func188,Tryz.ntmps188;go_wp2_with fail
  ((with_reducible refine(p1 _).mono ?_);rintro e w1 ⟨rfl,rfl⟩)
  go_wp2_with fail;refine bodyPost_ret (v:=.tuple #[.agg z6,.int .i64 1]) (by simp[results,Tryz.results188,go_sem]) rfl ⟨none,0,0,by rw[HE.out];rfl,Nat.le_refl _,by rw[HE.out];exact vE _ _,Dk _,?_⟩
  first|exact(Below.refl _ _).alloc (Nat.le_refl _) _|exact((((((ak _ _).setCell (Nat.le_refl _) _).setCell (Nat.le_refl _) _).setCell (Nat.le_refl _) _).setCell (Nat.le_refl _) _).setCell (Nat.le_refl _) _).setCell (Nat.le_refl _) _
 |true=>
  rw[h1]at p1;have hv:v=1∨v=2:=by simpa[EF]using h1
  clear h1;have p2:=an3 s hs;obtain⟨D,hD⟩:∃D,nP s.data.toList=D:=⟨_,rfl⟩;rw[hD]at p2;obtain⟨fs,x⟩:=D
  by_cases hx:x=0
  ·subst hx;have hright:=(aeT hD).2.2;have h64:=(Ap.1 hright).1;have hY:Hid ((oN fs 1).2=true→nU v fs=true→dD v s.data.toList=(iW v fs,0)):=fun hf hp=>arX hv hD hf hp;have hN:Hid ((oN fs 1).2=true→nU v fs=false→dD v s.data.toList=(dL,21)):=fun hf hp=>arV hv hD hf hp;have hK:Hid ((oN fs 1).2=false→dD v s.data.toList=(dL,20)):=fun hf=>arU hv hD hf;clear hD hv hright;generalize dD v s.data.toList=RR at*
   cases hf:(oN fs 1).2 with
   |false=>
    have HE:=ah (hK.out hf);clear hY hN hK;go_enter Tryz.func188,Tryz.ntmps188;go_wp2_with fail
    ((with_reducible refine(p1 _).mono ?_);rintro e w1 ⟨rfl,rfl⟩)
    go_wp2_with fail
    ((with_reducible refine(p2 _).mono ?_);rintro e w2 ⟨A2,n2,cap2,rfl,hc2,hf2,b2⟩)
    have p3:=afi A2 n2 cap2 fs 1 w2 hf2;rw[hf]at p3;have Lv:=ah hf;clear hf hf2;have hz2:=hz0.below b2;have b02:=aA hb0 b2;clear hz0 hb0 b2;go_wp2_with fail
    ((with_reducible refine p3.mono ?_);rintro e w3 ⟨rfl,b3⟩)
    have hz3:=hz2.below b3;have bU:=ah (aA b02 b3);obtain⟨z0,z1,z2,z3,z4,z5⟩:=hz3.cells;have f0:=hz3.frozen 0;have f1:=hz3.frozen 1;have f2:=hz3.frozen 2;have f3:=hz3.frozen 3;have f4:=hz3.frozen 4;have f5:=hz3.frozen 5;simp only[dL]at z0 z1 z2 z3 z4;clear hz2 hz3 b02 b3;go_wp2_with fail;refine bodyPost_ret (v:=.tuple #[.agg z6,.int .i64 20]) (by simp[results,Tryz.results188,go_sem,z0,z1,z2,z3,z4,z5]) rfl ⟨none,0,0,by rw[HE.out];rfl,Nat.le_refl _,by rw[HE.out];exact vE _ _,Dk _,?_⟩;exact(((((bU.out.setCell (Nat.le_refl _) _).setCell (Nat.le_refl _) _).setCell (Nat.le_refl _) _).setCell (Nat.le_refl _) _).setCell (Nat.le_refl _) _).setCell (Nat.le_refl _) _
   |true=>
    have hYE:=hY.out hf;have hNE:=hN.out hf;have HYE:=ah hYE;have m_:=ah hNE;clear hY hN hK hYE hNE;go_enter Tryz.func188,Tryz.ntmps188;go_wp2_with fail
    ((with_reducible refine(p1 _).mono ?_);rintro e w1 ⟨rfl,rfl⟩)
    go_wp2_with fail
    ((with_reducible refine(p2 _).mono ?_);rintro e w2 ⟨A2,n2,cap2,rfl,hc2,hf2,b2⟩)
    have p3:=afi A2 n2 cap2 fs 1 w2 hf2;rw[hf]at p3;have Lv:=ah hf;clear hf;have hn2:n2≤64:=by have:=hf2.1;simp only at this;omega
    have hz2:=hz0.below b2;have b02:=aA hb0 b2;have tX:=ah hf2;clear hz0 hb0 b2 hf2;go_wp2_with fail
    ((with_reducible refine p3.mono ?_);rintro e w3 ⟨rfl,b3⟩)
    have hz3:=hz2.below b3;have Ug:=aA b02 b3;have hw3:=fF hz3;have p4:=ar5 v A2 n2 cap2 fs w3 (tX.out.below b3) hn2;clear hz2 b02 b3 tX
    cases hp:nU v fs with
    |false=>
     have HE:=ah (m_.out hp);rw[hp]at p4;clear hp;go_wp2_with fail
     ((with_reducible refine p4.mono ?_);rintro e w4 ⟨A4,n4,cap4,rfl,hc4,KM,hnew,b4⟩)
     have lV:=hz3.below b4;have Uh:=aA Ug b4;clear hz3 Ug p4 KM;have cB:=ah Uh;obtain⟨z0,z1,z2,z3,z4,z5⟩:=lV.cells;have f0:=lV.frozen 0;have f1:=lV.frozen 1;have f2:=lV.frozen 2;have f3:=lV.frozen 3;have f4:=lV.frozen 4;have f5:=lV.frozen 5;have M7:=fF lV;simp only[dL]at z0 z1 z2 z3 z4;clear lV Uh;go_wp2_with fail;refine bodyPost_ret (v:=.tuple #[.agg z6,.int .i64 21]) (by simp[results,Tryz.results188,go_sem,z0,z1,z2,z3,z4,z5,M7]) rfl ⟨none,0,0,by rw[HE.out];rfl,Nat.le_refl _,by rw[HE.out];exact vE _ _,Dk _,?_⟩;exact(Zy cB.out _ _ _ _ _ _).alloc (by simp;omega) _
    |true=>
     have HE:=ah (HYE.out hp);rw[hp]at p4;clear hp;obtain⟨R,hR⟩:∃R,iW v fs=R:=⟨_,rfl⟩;rw[hR]at p4 HE;clear hR;go_wp2_with fail
     ((with_reducible refine p4.mono ?_);rintro e w4 ⟨A4,n4,cap4,rfl,hc4,KM,hnew,b4⟩)
     have apx:dh w4 A4 n4 R.extra:=KM;have lV:=hz3.below b4;have Uh:=aA Ug b4;clear hz3 Ug p4 KM;obtain⟨z0,z1,z2,z3,z4,z5⟩:=lV.cells;have f0:=lV.frozen 0;have f1:=lV.frozen 1;have f2:=lV.frozen 2;have f3:=lV.frozen 3;have f4:=lV.frozen 4;have f5:=lV.frozen 5;have M7:=fF lV;simp only[dL]at z0 z1 z2 z3 z4;clear lV;go_wp2_with fail;refine bodyPost_ret (v:=.tuple #[iL R (.slice A4 n4 cap4),.int .i64 0]) (by simp[results,Tryz.results188,go_sem,z0,z1,z2,z3,z4,z5,M7]) rfl ⟨A4,n4,cap4,by rw[HE.out];rfl,hc4,?_,hnew.mono (by omega),?_⟩
     ·rw[HE.out];exact(BD apx hnew hw3 _ _ _ _ _ _).below (ak _ _)
     ·exact(Zy Uh _ _ _ _ _ _).alloc (by simp;omega) _
  ·have HE:=ah (arT hv hD hx);have Et:((x:Int) != 0)=true:=by simp;omega
   clear hD hv hx;generalize dD v s.data.toList=RR at*;go_enter Tryz.func188,Tryz.ntmps188;go_wp2_with fail
   ((with_reducible refine(p1 _).mono ?_);rintro e w1 ⟨rfl,rfl⟩)
   go_wp2_with fail
   ((with_reducible refine(p2 _).mono ?_);rintro e w2 ⟨A2,n2,cap2,rfl,hc2,hf2,b2⟩)
   have hz3:=hz0.below b2;have bU:=ah (aA hb0 b2);obtain⟨z0,z1,z2,z3,z4,z5⟩:=hz3.cells;have f0:=hz3.frozen 0;have f1:=hz3.frozen 1;have f2:=hz3.frozen 2;have f3:=hz3.frozen 3;have f4:=hz3.frozen 4;have f5:=hz3.frozen 5;simp only[dL]at z0 z1 z2 z3 z4;clear hz0 hz3 hb0 b2 hf2;go_wp2_with fail;refine bodyPost_ret (v:=.tuple #[.agg z6,.int .i64 x]) (by simp[results,Tryz.results188,go_sem,z0,z1,z2,z3,z4,z5]) rfl ⟨none,0,0,by rw[HE.out];rfl,Nat.le_refl _,by rw[HE.out];exact vE _ _,Dk _,?_⟩;exact Zy bU.out _ _ _ _ _ _
end Go.Proofs.YtodaapcohdpenaaGreat
