-- eB
import Derived.Test.YtodaapcohdpenaaGreatGSq
import Derived.Test.YtodaapcohdpenaaGreatShPa
import Derived.Test.YtodaapcohdpenaaGreatSh
import Derived.Test.YtodaapcohdpenaaGreatGSum
namespace Go.Proofs.YtodaapcohdpenaaGreat
open Go.RowKit
set_option linter.unusedSimpArgs false
set_option linter.unusedVariables false
set_option maxHeartbeats 8000000
set_option maxRecDepth 100000
theorem agx (v:Int) (hv:v=1∨v=2) (w:World):Calls Tryz.prog 92 #[.int .i64 v] w fun e w'=>e= .returned (.string (bs [mo v]))∧w=w':=by
 rcases hv with rfl|rfl
 ·go_enter Tryz.func92,Tryz.ntmps92;go_wp2;go_ret;exact⟨rfl,rfl⟩
 ·go_enter Tryz.func92,Tryz.ntmps92;go_wp2;go_ret;exact⟨rfl,rfl⟩
theorem aoR (b:Bool) (w:World):Calls Tryz.prog 94 #[.bool b] w fun e w'=>e= .returned (.int .i64 (if b=true then 1 else 0))∧w=w':=by
 cases b with
 |true=>
  go_enter Tryz.func94,Tryz.ntmps94;go_wp2;go_ret;exact⟨rfl,rfl⟩
 |false=>
  go_enter Tryz.func94,Tryz.ntmps94;go_wp2;go_ret;exact⟨rfl,rfl⟩
theorem aqS (s:ByteArray) (hs:s.size≤140737490355328) (w:World):
  Calls Tryz.prog 149 #[.string s] w fun e w'=>e= .returned (.int .i64 (NS s.data.toList))∧w=w':=by
 go_enter Tryz.func149,Tryz.ntmps149;go_wp2
 go_loop [3,7] (fun v i=>∃(k m:Nat),k≤s.size∧i= .int .i64 k∧v= .int .u32 m∧m=Ej Ut (s.data.toList.take k)) (fun _ i=>s.size-(intOf i).toNat)
 case atStart=>exact⟨0,4294967295,by omega,rfl,rfl,rfl⟩
 case round=>
  obtain⟨k,m,hk,rfl,rfl,hm⟩:=hrel;have hl:m<4294967296:=by rw[hm];exact anO _ anQ
  have HM:=ah hm;clear hm
  by_cases h1:k<s.size
  ·have hb256:s[k].toNat<256:=s[k].toNat_lt;have hx:m ^^^ s[k].toNat<4294967296:=ab_ hl (by omega);have hp:=ab2 m s[k].toNat hl (by omega);have hst:=anP Ut s k h1;have HS:=ah hst;clear hst;go_wp2_with fail
   ((with_reducible refine(aqA _ hx _).mono ?_);rintro e w1 ⟨rfl,rfl⟩)
   go_wp2_with fail
   go_round
   case rel=>exact⟨k+1,_,by omega,by go_num,rfl,by rw[HS.out,←HM.out]⟩
   case measure=>simp[intOf];omega
  ·have hke:k=s.size:=by omega
   have hn:∃q,4294967295-m=q:=⟨_,rfl⟩;obtain⟨q,hq⟩:=hn;have hnot:=aqH hl hq;have hql:q<4294967296:=by omega
   have hw:wrap64 (q:Int)=q:=by unfold wrap64;omega
   have HQ:=ah hq;clear hq;subst hke;go_wp2_with fail;go_ret;exact⟨Jk (by rw[←HQ.out,HM.out,List.take_of_length_le (by simp)];rfl),rfl⟩
theorem ae8 (v:Int) (hv:v=1∨v=2) (s:ByteArray) (hs:s.size≤140737490355328) (w:World):Calls Tryz.prog 97 #[.int .i64 v,.string s] w fun e w'=>e= .returned (.string (bs (oC v s.data.toList)))∧Below w.heap.size w w':=by
 rcases hv with rfl|rfl
 ·go_enter Tryz.func97,Tryz.ntmps97;go_wp2;go_ret;exact⟨rfl,Below.refl _ _⟩
 ·have q1:=aqS s hs;have q2:=fun W=>amL (NS s.data.toList:Int) W;have HB:Hid (MH (NS s.data.toList:Int)=oC 2 s.data.toList):=by
   show MH _=_;have:=at1 s.data.toList;unfold MH oC;rw[if_pos (by omega),if_pos rfl,Int.toNat_natCast]
  go_enter Tryz.func97,Tryz.ntmps97;go_wp2_with fail
  ((with_reducible refine(q1 _).mono ?_);rintro e W1 ⟨rfl,rfl⟩)
  go_wp2_with fail
  ((with_reducible refine(q2 _).mono ?_);rintro e W2 ⟨rfl,b2⟩)
  go_wp2_with fail;go_ret;exact⟨by rw[HB.out];rfl,b2⟩
def Cr (w:World) (q:Nat) (ns:List Int):Prop:=w.heap[q]? =some (.cells (ZL ns).toArray 3 (0,0))
theorem Cr.others {w w':World} {q b:Nat} {ns:List Int} (h:Cr w q ns) (ho:Lib.OthersKept 5 (some b) w w') (hne:q≠b):Cr w' q ns:=
 ho _ _ h (fun e=>hne (by cases e;rfl)) (fun c fz e=>by injection e with _ e2 _;exact absurd e2 (by decide))
theorem Cr.below {w w':World} {q:Nat} {ns:List Int} (h:Cr w q ns) (hb:Below w.heap.size w w'):Cr w' q ns:=Eq.trans (hb.block q (fF h)) h
def Od (B b:Nat) (l:List UInt8) (ver:Int) (w:World) (e:Ending) (w':World):Prop:=
 e= .returned (.tuple #[])∧lC B b l ver w'∧Below B w w'∧Lib.OthersKept 5 (some b) w w'
theorem H6 {w w':World} {b:Option Nat} {e:TypeId} (h:Below w.heap.size w w'):Lib.OthersKept e b w w':=fun k o hk _ _=>Eq.trans (h.block k (fF hk)) hk
theorem Vr (B b q:Nat) (l:List UInt8) (ver:Int) (ns:List Int) (w:World) (h:lC B b l ver w) (hn:Cr w q ns) (Q8:q≠b) (hB:B≤w.heap.size) (hz:∀z∈ns,0≤z∧z≤bZ) (hl:l.length+8*ns.length≤100000000):
  Calls Tryz.prog 93 #[.pointer (some ⟨b,0,none⟩),.slice (some ⟨q,0,none⟩) ns.length ns.length] w (Od B b (l++ns.flatMap jH) ver w):=by
 have G9:=ah Q8;clear Q8;have HZ:=ah hz;clear hz;have HNS:=ah hn;clear hn;have HG:=ah h;clear h;have zn:=ah hB;clear hB;have HL:Hid (ns.length≤12500000∧l.length+8*ns.length≤100000000):=⟨by omega,hl⟩;clear hl;have hmx:ns.length≤9223372036854775807:=by have:=HL.out.1;omega
 generalize hN:ns.length=n at*;have HN:=ah hN;clear hN;go_enter Tryz.func93,Tryz.ntmps93;go_wp2_with fail;go_loopw [10] (fun i wy=>∃(k:Nat) (wr:World),wr=wy∧k≤n∧i= .int .i64 k∧lC B b (l++(ns.take k).flatMap jH) ver wr∧Below B w wr∧Lib.OthersKept 5 (some b) w wr) (fun i _=>n-(intOf i).toNat)
 case atStart=>exact⟨0,w,rfl,by omega,rfl,by simpa using HG.out,Below.refl _ _,Lib.OthersKept.refl _ _ _⟩
 case round=>
  obtain⟨k,wr,rfl,hk,rfl,hgi,hbw,hok⟩:=hrel
  by_cases hlt:k<n
  ·have HK:Hid (k<ns.length):=by show k<ns.length;rw[HN.out];exact hlt
   have DX:=ah (HNS.out.others hok G9.out);have c1:wr.cell? ⟨q,k,none⟩=some (.int .i64 (ns.getD k 0)):=by
    rw[bJ DX.out k,List.getElem?_toArray];exact am4 ns k HK.out
   have Vf:=HZ.out (ns.getD k 0) (by rw[List.getD_eq_getElem?_getD,List.getElem?_eq_getElem HK.out];exact List.getElem_mem _);have hp:=fun W=>Vz (ns.getD k 0) Vf.1 (by have:=Vf.2;unfold bZ at this;exact this) W;have HS:Hid (l++(ns.take k).flatMap jH++jH (ns.getD k 0)=l++(ns.take (k+1)).flatMap jH):=by
    show _=_;rw[List.take_succ_eq_append_getElem HK.out,List.flatMap_append,List.append_assoc];rw[List.getD_eq_getElem?_getD,List.getElem?_eq_getElem HK.out];simp
   have hlen:Hid ((l++(ns.take k).flatMap jH).length≤200000000):=by
    show _≤_;have h1:=KF jH (b:=8) (l:=ns.take k) (fun x hx=>tu (HZ.out x (List.mem_of_mem_take hx)).2);have h2:=HL.out;rw[List.length_append];have h3:(ns.take k).length*8≤ns.length*8:=Nat.mul_le_mul_right _ (by rw[List.length_take];omega);have h4:=HN.out;omega
   have Nc:=tu Vf.2;unfold jH at Nc;clear Vf;have yt:=ah hgi;clear hgi;have bU:=ah hbw;clear hbw;have lX:=ah hok;clear hok;generalize hX:ns.getD k 0=x at*;clear hX;generalize UU:l++(ns.take k).flatMap jH=L at*;clear UU;have hsz:(bs (vb x.toNat)).size≤8:=by rw[mR];exact Nc
   have HXB:Hid ((bs (vb x.toNat)).data.toList=jH x):=by show _=_;rw[CB];rfl
   generalize bs (vb x.toNat)=X at*;clear Nc;have M8:(k:Int)<(n:Int):=by omega
   have qN:=hlen;clear hlen;go_wp2_with fail
   ((with_reducible refine(hp _).mono ?_);rintro e W1 ⟨rfl,b1⟩)
   have nZ:=ah (yt.out.below b1);have acu:Hid (Below B w W1):=bU.out.trans (b1.mono (by have bP:=zn.out;have eU:=bU.out.size;omega));have aj3:Hid (Lib.OthersKept 5 (some b) w W1):=lX.out.trans (H6 b1);clear b1 c1;go_wp2_with fail;refine(UQ B b L ver X W1 nZ.out (by have bP:=qN.out;omega) (by have bP:=zn.out;have eU:=acu.out.size;omega)).mono ?_;rintro e W2 ⟨rfl,hg2,b2,o2⟩;have HG2:=ah hg2;clear hg2;have wV:=ah (acu.out.trans b2);clear b2;have aj4:=ah (aj3.out.trans o2);clear o2;go_wp2_with fail;go_roundw
   case rel=>
    refine⟨k+1,_,rfl,by omega,by go_num,?_,wV.out,aj4.out⟩;have bP:=HG2.out;rw[HXB.out,HS.out]at bP;exact bP
   case measure=>simp[intOf];omega
  ·have hke:k=n:=by omega
   subst hke;have yt:=ah hgi;clear hgi;have bU:=ah hbw;clear hbw;have lX:=ah hok;clear hok;go_wp2_with fail
   go_end0
   refine⟨rfl,?_,bU.out,lX.out⟩;have bP:=yt.out;rw[List.take_of_length_le (by have:=HN.out;omega)]at bP;exact bP
theorem aai (B b:Nat) (l:List UInt8) (ver:Int) (S:ByteArray) (w:World) (h:lC B b l ver w) (hB:B≤w.heap.size) (hS:S.size≤10000000) (hl:l.length≤10000000):
  Calls Tryz.prog 147 #[.pointer (some ⟨b,0,none⟩),.string S] w (Od B b (l++pW S.data.toList) ver w):=by
 have HS:Hid (l++[(S.size:Int)].flatMap jH++S.data.toList=l++pW S.data.toList):=by
  show _=_;unfold pW jH;rw[List.append_assoc,Fy];simp
 have HG:=ah h;have zn:=ah hB;clear hB;have lu:=ah hS;have gN:=ah hl;have hw64:IntKind.i64.wrap (S.size:Int)=(S.size:Int):=IntWalk.i64_in _ (by omega);clear hS hl;have hnb:Cr (w.alloc (.cells #[.int .i64 (S.size:Int)] 3)) w.heap.size [(S.size:Int)]:=World.alloc_heap_new w _;have hal:Below w.heap.size w (w.alloc (.cells #[.int .i64 (S.size:Int)] 3)):=ak _ _;have hne:w.heap.size≠b:=by have:=h.lt.2;omega
 clear h;obtain⟨W0,hW0⟩:=aQ (w.alloc (.cells #[.int .i64 (S.size:Int)] 3));rw[hW0]at hnb hal;have q1:=Vr B b w.heap.size l ver [(S.size:Int)] W0 (HG.out.below hal) hnb hne (by have:=zn.out;have:=hal.size;omega) (fun z hz=>by rw[List.mem_singleton.1 hz];unfold bZ;have:=lu.out;omega) (by have:=gN.out;simp;omega);simp only[List.length_cons,List.length_nil,Nat.zero_add]at q1;have HB0:Hid (Below B w W0):=hal.mono zn.out;have EU:Hid (Lib.OthersKept 5 (some b) w W0):=H6 hal;clear hal hnb hne;go_enter Tryz.func147,Tryz.ntmps147;go_wp2_with fail
 try rw[hW0]
 refine q1.mono ?_;rintro e W1 ⟨rfl,hg1,b1,o1⟩;have nZ:=ah hg1;clear hg1 q1;have HB1:=ah (HB0.out.trans b1);clear b1;have eZ:=ah (EU.out.trans o1);clear o1;have ji:Hid ((l++[(S.size:Int)].flatMap jH).length≤20000000):=by
  show _≤_;have h1:=tu (x:=(S.size:Int)) (by unfold bZ;have:=lu.out;omega);have h2:=gN.out;rw[List.length_append,show[(S.size:Int)].flatMap jH=jH (S.size:Int) by simp];omega
 go_wp2_with fail;refine(UQ B b _ ver S W1 nZ.out (by have bP:=ji.out;have eU:=lu.out;omega) (by have bP:=zn.out;have eU:=HB1.out.size;omega)).mono ?_;rintro e W2 ⟨rfl,hg2,b2,o2⟩;rw[HS.out]at hg2;have HE:Hid (Od B b (l++pW S.data.toList) ver w (.returned (.tuple #[])) W2):=⟨rfl,hg2,HB1.out.trans b2,eZ.out.trans o2⟩;clear hg2 b2 o2;go_wp2_with fail
 go_end0
 exact HE.out
end Go.Proofs.YtodaapcohdpenaaGreat
