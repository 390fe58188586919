-- eB
import Derived.Test.YtodaapcohdpenaaGreatGSq
import Derived.Test.YtodaapcohdpenaaGreatGVar
import Derived.Test.YtodaapcohdpenaaGreatShelf
import Derived.Lib.AppendStr
import Derived.Lib.OthersKept
import Derived.Test.YtodaapcohdpenaaGreatGFld
import Derived.Test.YtodaapcohdpenaaGreatGMath
import Derived.Test.YtodaapcohdpenaaGreatGTabD
import Derived.Maps.AppendAt
import Derived.OwnWalk
import Derived.WalkMore
namespace Go.Proofs.YtodaapcohdpenaaGreat
open Go.RowKit
set_option maxHeartbeats 4000000
set_option maxRecDepth 100000
theorem af_:(Tryz.prog.info? 128).map (fun j=>j.size)=some 2:=by kernel_rfl
theorem amn (B b:Nat) (l:List Value) (w:World) (h:Lib.IsBuilder 128 5 B b l w):
  Calls Tryz.prog 143 #[.pointer (some ⟨b,0,none⟩)] w fun e w'=>e= .returned (.tuple #[])∧(Lib.BuilderAt 128 5 B b (.pointer (some ⟨b,0,none⟩)) l w'∧Below B w w'∧Lib.OthersKept 5 (some b) w w'):=by
 obtain⟨j,hj,hjs⟩:=Option.map_eq_some_iff.1 af_;rcases h with h|h
 ·have h0:=h.cell0;have hsh:=h.shape;have hfz:=h.frozen0;go_enter Tryz.func143,Tryz.ntmps143;go_wp2;rw[Lib.run_to_unsafe w ⟨b,0,none⟩ Tryz.underlying125 Tryz.underlying187 hj (by rw[hjs];decide) hsh (Nat.zero_lt_succ 1)];simp only[Result.andThen];rw[Oper.upon_value];go_wp2;rw[run_callFunc_extern Tryz.func179 (by kernel_rfl) (by kernel_rfl) (by kernel_rfl) (e:=Extern.AbiNoEscape.same) (by kernel_rfl)];rw[Lib.run_noEscape];simp only[Result.andThen];rw[Oper.upon_value];go_wp2;rw[Lib.run_from_unsafe w ⟨b,0,none⟩ Tryz.underlying187 Tryz.underlying125 hj hsh (by kernel_rfl)];simp only[Result.andThen];rw[Oper.upon_value];have e0:=Lib.run_neq_ptr_same (P:=Tryz.prog) (w.setCell ⟨b,0,none⟩ (.pointer (some ⟨b,0,none⟩))) ⟨b,0,none⟩ Tryz.underlying125 hj;go_wp2
  go_end0
  exact⟨rfl,h.used _,(Below.refl B w).setCell (p:=⟨b,0,none⟩) h.1 _,(Lib.OthersKept.refl _ _ w).setCell ⟨b,0,none⟩ rfl _⟩
 ·have h0:=h.cell0;have e0:=Lib.run_neq_ptr_same (P:=Tryz.prog) w ⟨b,0,none⟩ Tryz.underlying125 hj;go_enter Tryz.func143,Tryz.ntmps143;go_wp2
  go_end0
  exact⟨rfl,h,Below.refl B _,Lib.OthersKept.refl _ _ _⟩
theorem ZF (B b:Nat) (l:List Value) (s:ByteArray) (w:World) (h:Lib.IsBuilder 128 5 B b l w) (hlen:l.length+s.size≤140737488355328) (hBw:B≤w.heap.size):
  Calls Tryz.prog 91 #[.pointer (some ⟨b,0,none⟩),.string s] w fun e w'=>e= .returned (.tuple #[.int .i64 s.size,.nilIface])∧(Lib.BuilderAt 128 5 B b (.pointer (some ⟨b,0,none⟩)) (l++Lib.strCells s) w'∧Below B w w'∧Lib.OthersKept 5 (some b) w w'):=by
 obtain⟨i0,hi,hz0,hz1,hz2⟩:=info_parts aaZ;go_enter Tryz.func91,Tryz.ntmps91;go_wp2_with fail;refine(amn B b l _ h).mono ?_;rintro e w1 ⟨rfl,h1,hb1,ok1⟩;obtain⟨hB,v,hbk,hown,hne⟩:=h1;have c0:w1.cell? ⟨b,0,none⟩=some (.pointer (some ⟨b,0,none⟩)):=by rw[Lib.cell_of_heap hbk];rfl
 have c1:w1.cell? ⟨b,1,none⟩=some v:=by rw[Lib.cell_of_heap hbk];rfl
 go_wp2_with (at_builtin;refine Lib.wpList_append_own_string _ rfl _ _ 126 9 rfl B 5 i0 Tryz.underlying126 Tryz.underlying9 hi hz0 hz1 hz2 _ _ _ rfl hown s rfl ?c3 ?c4 ?c5 ?_)
 case c3=>unfold maxLen;omega
 case c4=>omega
 case c5=>have:=hb1.size;omega
 intro v' w2 hown' hgrow _;have hlt:b<w1.heap.size:=by
  rcases Nat.lt_or_ge b w1.heap.size with h'|h'
  ·exact h'
  ·simp[Array.getElem?_eq_none h']at hbk
 have hb2:w2.heap[b]? =some (.cells #[.pointer (some ⟨b,0,none⟩),v] 128 (0,0)):=by
  rw[hgrow.block b hlt (fun e=>hne e.symm)];exact hbk
 have d0:w2.cell? ⟨b,0,none⟩=some (.pointer (some ⟨b,0,none⟩)):=by rw[Lib.cell_of_heap hb2];rfl
 have d1:w2.cell? ⟨b,1,none⟩=some v:=by rw[Lib.cell_of_heap hb2];rfl
 have f1:w2.frozen? ⟨b,1,none⟩=false:=Lib.frozen_of_heap hb2 1;obtain⟨ao,n',cap,rfl⟩:∃ao n' cap,v'= .slice ao n' cap:=by
  rcases hown'.2 with⟨hv,_⟩|⟨g,cap,cur,hv,_⟩
  ·exact⟨_,_,_,hv⟩
  ·exact⟨_,_,_,hv⟩
 go_wp2;go_ret2;refine⟨rfl,?_,?_,?_⟩
 ·exact Lib.BuilderAt.put (T:=128) (e:=5) hB hb2 (bs':=l++Lib.strCells s) (by simpa[Lib.strCells_length]using hown') (by decide)
 ·exact(hb1.grown hgrow (by have:=hb1.size;omega) (fun k hk=>(hown.lt k hk).1)).setCell (p:=⟨b,1,none⟩) hB _
 ·refine(ok1.grown hgrow (fun g hg=>?_)).setCell ⟨b,1,none⟩ rfl _;rcases hown.2 with⟨rfl,_⟩|⟨g',cap',cur,rfl,_,hh,_⟩
  ·simp[Value.ownBlock]at hg
  ·simp only[Value.ownBlock,Option.some.injEq]at hg;subst hg;exact⟨_,_,hh⟩
theorem own_below {w w':World} {base:Nat} {e:TypeId} {size n:Nat} {v:Value} {xs:List Value} (h:w.ownsRow base e size v n xs) (hb:Below w.heap.size w w'):w'.ownsRow base e size v n xs:=by
 refine⟨h.1,?_⟩;rcases h.2 with h0|⟨g,cap,cur,hv,hg,hh,r⟩
 ·exact .inl h0
 ·have hgl:g<w.heap.size:=by
   rcases Nat.lt_or_ge g w.heap.size with h'|h'
   ·exact h'
   ·simp[Array.getElem?_eq_none h']at hh
  exact .inr ⟨g,cap,cur,hv,hg,(hb.block g hgl).trans hh,r⟩
theorem Y8 {T e:TypeId} {B b:Nat} {l:List Value} {w w':World} (h:Lib.IsBuilder T e B b l w) (hb:Below w.heap.size w w'):Lib.IsBuilder T e B b l w':=by
 have key:∀p,Lib.BuilderAt T e B b p l w→Lib.BuilderAt T e B b p l w':=by
  intro p h;have hlt:=h.lt;obtain⟨hB,v,hbk,hown,hne⟩:=h;exact⟨hB,v,(hb.block b hlt).trans hbk,own_below hown hb,hne⟩
 rcases h with h|h
 ·exact .inl (key _ h)
 ·exact .inr (key _ h)
theorem agM (n:Int) (h1:0≤n) (h2:n≤9007199254740992) (w:World):
  Calls Tryz.prog 200 #[.int .i64 n] w fun e w'=>e= .returned (.string (bs (vb n.toNat)))∧Below w.heap.size w w':=by
 have hp:=Vz n h1 h2;clear h1 h2;generalize bs (vb n.toNat)=S at hp ⊢;go_enter Tryz.func200,Tryz.ntmps200;go_wp2_with fail;refine(hp _).mono ?_;rintro e w1 ⟨rfl,b1⟩;go_wp2_with fail;go_ret;exact⟨rfl,b1⟩
theorem byteCells_append (a b:List UInt8):Lib.byteCells (a++b)=Lib.byteCells a++Lib.byteCells b:=by simp[Lib.byteCells]
theorem aeo (w:World) (cs:Array Value) (t:TypeId):(w.alloc (.cells cs t)).heap[w.heap.size]? =some (.cells cs t (0,0)):=World.alloc_heap_new w _
theorem IsBuilder.le {T e:TypeId} {B b:Nat} {l:List Value} {w:World} (h:Lib.IsBuilder T e B b l w):B≤b∧b<w.heap.size:=by
 rcases h with h|h
 ·exact⟨h.1,h.lt⟩
 ·exact⟨h.1,h.lt⟩
theorem aow (A:Option Addr) (n cap:Nat) (fs:List aT) (w:World) (h:dh w A n fs):
  Calls Tryz.prog 184 #[.slice A n cap] w fun e w'=>e= .returned (.tuple #[.string (bs (encR fs).1),.int .i64 (encR fs).2])∧Below w.heap.size w w':=by
 have hr:=ahr A n cap fs w h;obtain⟨hn,hm,hwf,hc⟩:=h;unfold maxLen at hm;have HN:=ah hn;clear hn;have HC:=ah hc;clear hc
 cases hR:jU fs with
 |false=>
  rw[hR]at hr;have HE:Hid (encR fs=([],1)):=by show encR fs=_;unfold encR;rw[hR];rfl
  clear hR;go_enter Tryz.func184,Tryz.ntmps184;go_wp2_with fail;refine hr.mono ?_;rintro e w1 ⟨rfl,b1⟩;go_wp2_with fail;go_ret2;exact⟨by rw[HE.out];rfl,b1⟩
 |true=>
  rw[hR]at hr;have sI:=ah (Ap.1 hR);have HR:=ah hR;clear hR;go_enter Tryz.func184,Tryz.ntmps184;go_wp2_with fail;refine hr.mono ?_;rintro e w1 ⟨rfl,b1⟩;go_wp2_with fail;go_loopw [12] (fun i wr=>∃k:Nat,k≤n∧i= .int .i64 k∧Lib.IsBuilder 128 5 w1.heap.size w1.heap.size (Lib.byteCells (gY (fs.take k))) wr∧Below w1.heap.size w1 wr) (fun i _=>n-(intOf i).toNat)
  case atStart=>
   refine⟨0,by omega,rfl,.inl ⟨Nat.le_refl _,.slice none 0 0,aeo _ _ _,World.ownsRow_nil _ _ _ _,by simp[Value.ownBlock]⟩,(Below.refl _ _).alloc (Nat.le_refl _) _⟩
  case round=>
   obtain⟨k,hk,rfl,hbu,hbw⟩:=hrel
   by_cases hlt:k<n
   ·obtain⟨b,off,hA,hb,hat⟩:=HC.out (by omega);subst hA;have HK:Hid (k<fs.length):=by have:=HN.out;show k<fs.length;omega
    have hbv:Below w.heap.size w wr:=aA b1 hbw;obtain⟨c1,c2⟩:wr.cell? ⟨b,off+k*2,none⟩=some (.int .i64 (tg fs k))∧wr.cell? ⟨b,off+k*2+1,none⟩=some (.string (dt fs k)):=by
     have h:=hat k HK.out;exact⟨(hbv.cell (p:=⟨b,off+k*2,none⟩) hb).trans h.1,(hbv.cell (p:=⟨b,off+k*2+1,none⟩) hb).trans h.2⟩
    clear hat;have hok:=FU.1 (sI.out.2 k HK.out);have hhd:=afE k (Nat.le_of_lt HK.out) (fun j hj=>sI.out.2 j (Nat.lt_trans hj HK.out));have hl1:=Z8 sI.out.2 k (Nat.le_of_lt HK.out);have h64:=sI.out.1;have hv1:=BN (n:=(tg fs k).toNat) (by omega);have hv2:=BN (n:=(dt fs k).size) (by omega);have hbl:(Lib.byteCells (gY (fs.take k))).length=(gY (fs.take k)).length:=Lib.byteCells_length _;have hkk:k<64:=by have:=HK.out;omega
    have HS:Hid (Lib.byteCells (gY (fs.take k))++Lib.strCells (bs (vb (tg fs k).toNat))++Lib.strCells (bs (vb (dt fs k).size))++Lib.strCells (dt fs k)=Lib.byteCells (gY (fs.take (k+1)))):=by
     show _=_;rw[aot HK.out,byteCells_append,byteCells_append,byteCells_append,←List.append_assoc,←List.append_assoc];rfl
    have p1:=agM (tg fs k) (by omega) (by omega);have p2:=agM ((dt fs k).size:Int) (by omega) (by omega);rw[Int.toNat_natCast]at p2;obtain⟨hle,apk⟩:=IsBuilder.le hbu;have hx0:=aeo wr #[.int .i64 (tg fs k),.string (dt fs k)] 65;have hsz0:(wr.alloc (.cells #[.int .i64 (tg fs k),.string (dt fs k)] 65)).heap.size=wr.heap.size+1:=by simp
    have ba:Below wr.heap.size wr (wr.alloc (.cells #[.int .i64 (tg fs k),.string (dt fs k)] 65)):=ak _ _;have apm:=Y8 hbu ba;have hn1:(bs (vb (tg fs k).toNat)).size≤8:=by rw[mR];exact hv1
    have hn2:(bs (vb (dt fs k).size)).size≤8:=by rw[mR];exact hv2
    have hn3:(dt fs k).size≤1000:=hok.2.2;have avL:(Lib.byteCells (gY (fs.take k))).length≤70000:=by omega
    clear hok hhd hl1 h64 hv1 hv2 hbl hkk;generalize Lib.byteCells (gY (fs.take k))=L0 at*;generalize bs (vb (tg fs k).toNat)=S1 at*;generalize bs (vb (dt fs k).size)=S2 at*;go_wp2_with fail;refine(p1 _).mono ?_;rintro e V1 ⟨rfl,d1⟩;have hx1:V1.heap[wr.heap.size]? =_:=(d1.block _ (by omega)).trans hx0;have apn:=Y8 apm d1;have hs1:=d1.size;go_wp2_with fail;refine(ZF _ _ L0 S1 _ apn (by omega) (by omega)).mono ?_;rintro e V2 ⟨rfl,apo,e2,o2⟩;have hx2:=o2 _ _ hx1 (by simp;omega) (by intro c fz h;injection h with _ h _;exact absurd h (by decide));have c5:V2.cell? ⟨wr.heap.size,1,none⟩=some (.string (dt fs k)):=Lib.cell_of_heap hx2 1;have hs2:=e2.size;have iR:=ah hx2;clear hx0 hx1 hx2;go_wp2_with fail;refine(p2 _).mono ?_;rintro e V3 ⟨rfl,d3⟩;have hx3:=(d3.block _ (fF iR.out)).trans iR.out;have apq:=Y8 (.inr apo) d3;have hs3:=d3.size;have jP:=ah hx3;clear hx3 c5;go_wp2_with fail;refine(ZF _ _ _ S2 _ apq (by rw[List.length_append,Lib.strCells_length];omega) (by omega)).mono ?_;rintro e V4 ⟨rfl,apr,e4,o4⟩;have hx4:=o4 _ _ jP.out (by simp;omega) (by intro c fz h;injection h with _ h _;exact absurd h (by decide));have c6:V4.cell? ⟨wr.heap.size,1,none⟩=some (.string (dt fs k)):=Lib.cell_of_heap hx4 1;have hs4:=e4.size;clear hx4;go_wp2_with fail;refine(ZF _ _ _ (dt fs k) _ (.inr apr) (by rw[List.length_append,List.length_append,Lib.strCells_length,Lib.strCells_length];omega) (by omega)).mono ?_;rintro e V5 ⟨rfl,aps,e5,o5⟩;go_wp2_with fail;go_roundw
    case rel=>
     refine⟨k+1,by omega,by go_num,by rw[←HS.out];exact .inr aps,?_⟩;have hz:=hbw.size;exact((((hbw.trans (ba.mono (by omega))).trans (d1.mono (by omega))).trans e2).trans ((d3.mono (by omega)).trans e4)).trans e5
    case measure=>simp[intOf];omega
   ·have hkn:n=k:=by omega
    subst hkn;have hl1:=Z8 sI.out.2 n (by have:=HN.out;omega);have e1:fs.take n=fs:=List.take_of_length_le (by have:=HN.out;omega);rw[e1]at hbu hl1;clear e1;have h64:=sI.out.1;have hN:=HN.out;obtain⟨hle,apk⟩:=IsBuilder.le hbu;have hL:((Lib.byteCells (gY fs)).length:Int)=((gY fs).length:Int):=by rw[Lib.byteCells_length]
    by_cases hlong:(gY fs).length≤10000
    ·have HE:Hid (encR fs=(gY fs,0)):=by show encR fs=_;unfold encR;rw[HR.out,if_pos rfl,if_pos hlong]
     have hstr:=Tryz.Builder_String_any _ _ _ _ hbu (by omega);have hlen:=Tryz.Builder_Len _ _ _ _ hbu;rw[hL]at hlen;clear hL hl1 hN;go_wp2_with fail;refine hlen.mono ?_;rintro e V1 ⟨rfl,rfl⟩;go_wp2_with fail;refine hstr.mono ?_;rintro e V2 ⟨rfl,d2⟩;go_wp2_with fail;go_ret2;exact⟨by rw[HE.out];rfl,(aA b1 hbw).trans (d2.mono b1.size)⟩
    ·have HE:Hid (encR fs=([],12)):=by show encR fs=_;unfold encR;rw[HR.out,if_pos rfl,if_neg hlong]
     have hlen:=Tryz.Builder_Len _ _ _ _ hbu;rw[hL]at hlen;clear hL hl1 hN;go_wp2_with fail;refine hlen.mono ?_;rintro e V1 ⟨rfl,rfl⟩;go_wp2_with fail;go_ret2;exact⟨by rw[HE.out];rfl,aA b1 hbw⟩
def lenOf:Value→Nat| .string S=>S.size|_=>0
def aiv (w:World) (r:List aT×Nat) (e:Ending) (w':World):Prop:=
 ∃A n cap,e= .returned (.tuple #[.slice A n cap,.int .i64 r.2])∧n≤cap∧dh w' A n r.1∧Below w.heap.size w w'
theorem Lh {t:Nat} (h:t≤1000000):(Lit.int .i64 (t:Int)).wf=true:=by
 rw[show(Lit.int .i64 (t:Int)).wf=(decide (-9223372036854775808≤(t:Int))&&decide ((t:Int)≤9223372036854775807))from rfl];simp;omega
theorem an3 (s:ByteArray) (hs:s.size≤281474976710656) (w:World):
  Calls Tryz.prog 204 #[.string s] w (aiv w (nP s.data.toList)):=by
 have hsl:s.data.toList.length=s.size:=by simp
 by_cases hlong:10000<s.size
 ·have HE:Hid (nP s.data.toList=([],12)):=aeQ (by omega);clear hsl;go_enter Tryz.func204,Tryz.ntmps204;go_wp2_with fail;go_step3;go_wp2_with fail;rw[Exit.noGoto_ret];go_ret2;exact⟨none,0,0,by rw[HE.out];rfl,Nat.le_refl _,by rw[HE.out];exact vE _ _,Below.refl _ _⟩
 ·have HC:Hid (nP s.data.toList=comb [] (lG s.data.toList.length s.data.toList 0 0)):=ZQ (by omega);obtain⟨R,hR⟩:∃R,nP s.data.toList=R:=⟨_,rfl⟩;rw[hR]at HC ⊢;clear hR;have HSL:=ah hsl;clear hsl;obtain⟨i0,hi,hz0,hz1,hz2⟩:=info_parts Rq;go_enter Tryz.func204,Tryz.ntmps204;go_wp2_with fail;go_step3;go_wp2_with fail;go_step3;go_wp2_with fail;go_loopw [0,4,5,6] (fun s l a f wr=>∃(S:ByteArray) (pre:List aT) (t:Nat),s= .string S∧a= .int .i64 t∧f= .int .i64 0∧S.size≤10000∧pre.length≤64∧wr.ownsRow w.heap.size 65 2 l pre.length (iP pre)∧kP pre∧Hid (R=comb pre (lG S.data.toList.length S.data.toList t pre.length))∧Below w.heap.size w wr) (fun s _ _ _ _=>lenOf s)
  case atStart=>exact⟨s,[],0,rfl,rfl,rfl,by omega,by simp,World.ownsRow_nil _ _ _ _,fun f h=>by simp at h,HC.out,Below.refl _ _⟩
  case round=>
   obtain⟨S,pre,t,rfl,rfl,rfl,hS,hp,hown,hwf,hR,hbw⟩:=hrel;have hL:=Ky S.data.toList;rw[←MG]at hL
   by_cases he:S.data.toList=[]
   ·have hE:Hid (R=(pre,0)):=by
     have:=hR.out;rw[he,Ur]at this;exact this
    rw[he]at hL;clear he;obtain⟨A,cap,hv,hcap,hfs⟩:=sV hown hwf;subst hv;go_wp2_with fail;rw[Exit.noGoto_ret];go_ret2;exact⟨A,_,cap,by rw[hE.out];rfl,hcap,by rw[hE.out];exact hfs,hbw⟩
   ·have hL2:S.toList.isEmpty=false:=by rw[hL];simpa using he
    clear hL;have ht:=ao2 S t (by omega);have hne:=auc (l:=S.data.toList) (a:=t);have hbs:=fun(d:List UInt8)=>mR d;have hsl:S.data.toList.length=S.size:=by simp
    have HE:=ah he;clear he;generalize hT:jJ S.data.toList t=T at ht hne;obtain⟨n,d,k,e⟩:=T;simp only at ht hne;rcases hne with rfl|hne
    ·have hok:=Wi hT;rw[hsl]at hok
     by_cases h64:pre.length=64
     ·have hE:Hid (R=([],11)):=by
       have:=hR.out;rw[h64]at this;rw[aeL pre HE.out (Nat.le_refl _) (by rw[hT])]at this;exact this
      have HT:=ah hT;clear hT hok hbs hsl;have apg:((pre.length:Int)==64)=true:=by simp;omega
      obtain⟨A,cap,hv,hcap,hfs⟩:=sV hown hwf;subst hv;have wU:=ah h64;clear h64;go_wp2_with fail;refine(ht _).mono ?_;rintro e V1 ⟨rfl,d1⟩;go_wp2_with fail;rw[Exit.noGoto_ret];go_ret2;exact⟨none,0,0,by rw[hE.out];rfl,Nat.le_refl _,by rw[hE.out];exact vE _ _,(aA hbw d1).alloc (aA hbw d1).size _⟩
     ·have hE:Hid (R=comb (pre++[((n:Int),bs d)]) (lG (S.extract k S.size).data.toList.length (S.extract k S.size).data.toList n (pre++[((n:Int),bs d)]).length)):=by
       show R=_;rw[aeO,List.length_append];exact hR.out.trans (ZP pre HE.out (Nat.le_refl _) hT h64)
      have HW:Hid (kP (pre++[((n:Int),bs d)])):=by
       intro f hf;rcases List.mem_append.1 hf with h|h
       ·exact hwf f h
       ·rw[List.mem_singleton]at h;subst h;exact⟨Lh hok.2.2.2.1,by rw[mR];omega⟩
      have HK:Hid (2≤k∧k≤S.size):=⟨hok.1,hok.2.1⟩;have hS2:=fun W=>NP (T:=S) (k:=k) rfl hok.2.1 W;have hk0:(0:Int)≤(k:Int):=by omega
      have hk1:(k:Int)≤(S.size:Int):=by omega
      have HO:=ah hok;clear hT hok hbs hsl;have apg:((pre.length:Int)==64)=false:=by simp;omega
      obtain⟨A,cap,hv,hcap,hfs⟩:=sV hown hwf;subst hv;have wU:=ah h64;clear h64;generalize hD:bs d=D at*;have HD:=ah hD;clear hD;generalize hS3:S.extract k S.size=S3 at*;have D7:=ah hS3;clear hS3;go_wp2_with fail;refine(ht _).mono ?_;rintro e V1 ⟨rfl,d1⟩;have hown1:((V1.alloc (.cells #[.int .i64 n,.string D] 65)).alloc (.cells #[.int .i64 n,.string D] 65)).ownsRow w.heap.size 65 2 (.slice A pre.length cap) pre.length (iP pre):=((own_below hown d1).alloc _).alloc _;have hol:∀g,(Value.slice A pre.length cap).ownBlock=some g→g<V1.heap.size:=fun g hg=>((own_below hown d1).lt g hg).2;have avE:=d1.size;have avF:=hbw.size;go_wp2_with (at_builtin;refine wpList_append_own_at _ rfl _ _ 66 rfl w.heap.size 65 i0 (.agg #[.int .i64 0,.string ⟨#[]⟩]) 2 24 Tryz.underlying66 hi hz0 hz1 hz2 rfl (by decide) _ _ _ rfl hown1 ⟨V1.heap.size+1,0,none⟩ 1 1 [.int .i64 n,.string D] rfl rfl ?c1 ?c2 ?c3 ?c4 ?c5 ?_)
      case c1=>intro j u hu;have:=cell_two_new (V1.alloc (.cells #[.int .i64 n,.string D] 65)) (.int .i64 n) (.string D) 65 j u hu;simpa using this
      case c2=>intro u hu;simp at hu;rcases hu with rfl|rfl<;>rfl
      case c3=>unfold maxLen;omega
      case c4=>omega
      case c5=>simp;omega
      intro v' V2 hown2 hgrow _ hat;have hx:V2.heap[V1.heap.size]? =some (.cells #[.int .i64 n,.string D] 65 (0,0)):=by
       rw[hgrow.block V1.heap.size (by simp;omega) (fun e=>by have:=hol _ e.symm;omega)];exact(Below.heap_alloc _ _ _ (by simp)).trans (World.alloc_heap_new V1 _)
      have c6:V2.cell? ⟨V1.heap.size,0,none⟩=some (.int .i64 n):=bJ hx 0;have c7:V2.cell? ⟨V1.heap.size,1,none⟩=some (.string D):=bJ hx 1;have hb2:Below w.heap.size w V2:=(((hbw.trans (d1.mono hbw.size)).alloc (by omega) _).alloc (by simp;omega) _).grown hgrow (by simp;omega) (fun g hg=>(hown1.lt g hg).1);have HX:=ah hx;clear hx;go_wp2_with fail;go_quiet (fail);go_wp2_with fail;go_roundw
      case rel=>
       refine⟨S3,pre++[((n:Int),D)],n,rfl,rfl,rfl,?_,?_,?_,HW.out,hE.out,jL hb2 _⟩
       ·have:=HK.out;rw[←D7.out,ByteArray.size_extract];omega
       ·have:=wU.out;simp;omega
       ·rw[Qg,List.length_append];exact hown2
      case measure=>have:=HK.out;simp only[lenOf];rw[←D7.out,ByteArray.size_extract];omega
    ·have hE:Hid (R=([],e)):=hR.out.trans (aeK pre HE.out (Nat.le_refl _) (by rw[hT]) (by omega));clear hT hbs hsl;rcases hne with rfl|rfl|rfl
     all_goals
      go_wp2_with fail;refine(ht _).mono ?_;rintro e V1 ⟨rfl,d1⟩;go_wp2_with fail;rw[Exit.noGoto_ret];go_ret2;exact⟨none,0,0,by rw[hE.out];rfl,Nat.le_refl _,by rw[hE.out];exact vE _ _,(aA hbw d1).alloc (aA hbw d1).size _⟩
end Go.Proofs.YtodaapcohdpenaaGreat
