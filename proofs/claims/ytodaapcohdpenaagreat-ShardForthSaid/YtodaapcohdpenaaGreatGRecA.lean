-- eB
import Derived.Test.YtodaapcohdpenaaGreatGSq
import Derived.Test.YtodaapcohdpenaaGreatGFld
import Derived.Test.YtodaapcohdpenaaGreatGMath
import Derived.Deep.QuietTactic
import Derived.BigQuiet
namespace Go.Proofs.YtodaapcohdpenaaGreat
open Go.RowKit
set_option maxHeartbeats 4000000
set_option maxRecDepth 100000
abbrev iL (r:au) (x:Value):Value:=.agg (aC r x)
def zK (r:au):Prop:=r.key.size≤140737488365000∧r.value.size≤140737488365000∧r.note.size≤140737488365000
def EF (v:Int):Bool:=decide (v=1∨v=2)
theorem aia (v:Int) (w:World):Calls Tryz.prog 114 #[.int .i64 v] w fun e w'=>e= .returned (.bool (EF v))∧w=w':=by
 by_cases h1:v=1
 ·subst h1;go_enter Tryz.func114,Tryz.ntmps114;go_wp2;go_ret;exact⟨rfl,rfl⟩
 ·by_cases h2:v=2
  ·subst h2;go_enter Tryz.func114,Tryz.ntmps114;go_wp2;go_ret;exact⟨rfl,rfl⟩
  ·have HB:Hid (EF v=false):=by show EF v=false;unfold EF;simp[h1,h2]
   have e1:(v==1)=false:=by simpa using h1
   have e2:(v==2)=false:=by simpa using h2
   clear h1 h2;go_enter Tryz.func114,Tryz.ntmps114;go_wp2;go_ret;exact⟨bC (by rw[HB.out]),rfl⟩
def rV (s:ByteArray) (m:Int):Bool:=decide (1≤s.size∧(s.size:Int)≤m)
theorem pX (s:ByteArray):s.toList=[]↔s.size=0:=by
 have e:s.toList=s.data.toList:=by rw[MG s,Ky];simp[bs]
 rw[e];constructor
 ·intro h;have:s.data.toList.length=0:=by rw[h];rfl
  simpa using this
 ·intro h;exact List.eq_nil_of_length_eq_zero (by simpa using h)
theorem agn (s:ByteArray) (m:Int) (hs:s.size≤9223372036854775807) (w:World):Calls Tryz.prog 115 #[.string s,.int .i64 m] w fun e w'=>e= .returned (.bool (rV s m))∧w=w':=by
 by_cases h1:s.size=0
 ·have HB:Hid (rV s m=false):=by show rV s m=false;unfold rV;simp;omega
  have e1:s.toList=[]:=(pX s).2 h1;clear h1;go_enter Tryz.func115,Tryz.ntmps115;go_wp2;go_ret;exact⟨bC (by rw[HB.out]),rfl⟩
 ·have e1:s.toList.isEmpty=false:=by
   rw[Bool.eq_false_iff];intro h;exact h1 ((pX s).1 (by simpa using h))
  by_cases h2:(s.size:Int)≤m
  ·have HB:Hid (rV s m=true):=by show rV s m=true;unfold rV;simp;omega
   clear h1;go_enter Tryz.func115,Tryz.ntmps115;go_wp2;go_ret;exact⟨bC (by rw[HB.out]),rfl⟩
  ·have HB:Hid (rV s m=false):=by show rV s m=false;unfold rV;simp;omega
   clear h1;go_enter Tryz.func115,Tryz.ntmps115;go_wp2;go_ret;exact⟨bC (by rw[HB.out]),rfl⟩
def lJ (n:Int):Bool:=decide (0≤n∧n≤9007199254740992)
theorem agm (n:Int) (w:World):Calls Tryz.prog 116 #[.int .i64 n] w fun e w'=>e= .returned (.bool (lJ n))∧w=w':=by
 by_cases h1:0≤n
 ·by_cases h2:n≤9007199254740992
  ·have HB:Hid (lJ n=true):=by show lJ n=true;unfold lJ;simp;omega
   go_enter Tryz.func116,Tryz.ntmps116;go_wp2;go_ret;exact⟨bC (by rw[HB.out]),rfl⟩
  ·have HB:Hid (lJ n=false):=by show lJ n=false;unfold lJ;simp;omega
   go_enter Tryz.func116,Tryz.ntmps116;go_wp2;go_ret;exact⟨bC (by rw[HB.out]),rfl⟩
 ·have HB:Hid (lJ n=false):=by show lJ n=false;unfold lJ;simp;omega
  go_enter Tryz.func116,Tryz.ntmps116;go_wp2;go_ret;exact⟨bC (by rw[HB.out]),rfl⟩
theorem agu (v t:Int) (w:World):Calls Tryz.prog 160 #[.int .i64 v,.int .i64 t] w fun e w'=>e= .returned (.bool (fE v t))∧w=w':=by
 obtain⟨k,hk⟩:∃k,rW v=k:=⟨_,rfl⟩;have HK:=ah hk
 by_cases hv:v=2
 ·have hk5:k=5:=by rw[←hk];unfold rW;rw[if_pos hv]
  subst hk5;have e2:(v==2)=true:=by simpa using hv
  clear hv hk
  by_cases h1:1≤t
  ·by_cases h2:t≤5
   ·have HB:Hid (fE v t=true):=BG.2 (by rw[HK.out];omega);go_enter Tryz.func160,Tryz.ntmps160;go_wp2;go_ret;exact⟨bC (by rw[HB.out]),rfl⟩
   ·have HB:Hid (fE v t=false):=BH.2 (by rw[HK.out];omega);go_enter Tryz.func160,Tryz.ntmps160;go_wp2;go_ret;exact⟨bC (by rw[HB.out]),rfl⟩
  ·have HB:Hid (fE v t=false):=BH.2 (by rw[HK.out];omega);go_enter Tryz.func160,Tryz.ntmps160;go_wp2;go_ret;exact⟨bC (by rw[HB.out]),rfl⟩
 ·have hk5:k=3:=by rw[←hk];unfold rW;rw[if_neg hv]
  subst hk5;have e2:(v==2)=false:=by simpa using hv
  clear hv hk
  by_cases h1:1≤t
  ·by_cases h2:t≤3
   ·have HB:Hid (fE v t=true):=BG.2 (by rw[HK.out];omega);go_enter Tryz.func160,Tryz.ntmps160;go_wp2;go_ret;exact⟨bC (by rw[HB.out]),rfl⟩
   ·have HB:Hid (fE v t=false):=BH.2 (by rw[HK.out];omega);go_enter Tryz.func160,Tryz.ntmps160;go_wp2;go_ret;exact⟨bC (by rw[HB.out]),rfl⟩
  ·have HB:Hid (fE v t=false):=BH.2 (by rw[HK.out];omega);go_enter Tryz.func160,Tryz.ntmps160;go_wp2;go_ret;exact⟨bC (by rw[HB.out]),rfl⟩
theorem Z_ (A:Option Addr) (n cap:Nat) (fs:List aT) (w:World) (h:dh w A n fs):
  Calls Tryz.prog 159 #[.slice A n cap] w fun e w'=>e= .returned (.bool (decide (few fs≤8)))∧Below w.heap.size w w':=by
 obtain⟨hn,hm,hwf,hc⟩:=h;unfold maxLen at hm;have HN:=ah hn;clear hn;have HC:=ah hc;clear hc;go_enter Tryz.func159,Tryz.ntmps159;go_wp2_with fail;go_loopw [3,8] (fun a i wr=>∃(k q:Nat),k≤n∧q≤k∧i= .int .i64 k∧a= .int .i64 q∧Hid (few (fs.take k)=q)∧Below w.heap.size w wr) (fun _ i _=>n-(intOf i).toNat)
 case atStart=>exact⟨0,0,by omega,by omega,rfl,rfl,rfl,Below.refl _ _⟩
 case round=>
  obtain⟨k,q,hk,hq,rfl,rfl,hf,hbw⟩:=hrel
  by_cases hlt:k<n
  ·obtain⟨b,off,hA,hb,hat⟩:=HC.out (by omega);subst hA;have HK:Hid (k<fs.length):=by have:=HN.out;show k<fs.length;omega
   obtain⟨c1,c2⟩:wr.cell? ⟨b,off+k*2,none⟩=some (.int .i64 (tg fs k))∧wr.cell? ⟨b,off+k*2+1,none⟩=some (.string (dt fs k)):=by
    have h:=hat k HK.out;exact⟨(hbw.cell (p:=⟨b,off+k*2,none⟩) hb).trans h.1,(hbw.cell (p:=⟨b,off+k*2+1,none⟩) hb).trans h.2⟩
   clear hat
   by_cases h4:tg fs k=4
   ·have HS:Hid (few (fs.take (k+1))=q):=(MW HK.out).trans (by rw[hf.out,if_neg (by simp[h4])];rfl);have e4:(tg fs k != 4)=false:=by simpa using h4
    clear h4;go_wp2_with fail;go_roundw
    case rel=>exact⟨k+1,q,by omega,by omega,by go_num,rfl,HS,hbw.alloc hbw.size _⟩
    case measure=>simp[intOf];omega
   ·by_cases h5:tg fs k=5
    ·have HS:Hid (few (fs.take (k+1))=q):=(MW HK.out).trans (by rw[hf.out,if_neg (by simp[h5])];rfl);have e4:(tg fs k != 4)=true:=by simpa using h4
     have e5:(tg fs k != 5)=false:=by simpa using h5
     clear h4 h5;go_wp2_with fail;go_roundw
     case rel=>exact⟨k+1,q,by omega,by omega,by go_num,rfl,HS,hbw.alloc hbw.size _⟩
     case measure=>simp[intOf];omega
    ·have HS:Hid (few (fs.take (k+1))=q+1):=(MW HK.out).trans (by rw[hf.out,if_pos ⟨h4,h5⟩]);have e4:(tg fs k != 4)=true:=by simpa using h4
     have e5:(tg fs k != 5)=true:=by simpa using h5
     clear h4 h5;go_wp2_with fail;go_roundw
     case rel=>exact⟨k+1,q+1,by omega,by omega,by go_num,by go_num,HS,hbw.alloc hbw.size _⟩
     case measure=>simp[intOf];omega
  ·have hkn:n=k:=by omega
   subst hkn;have HQ:Hid (few fs=q):=by
    have:=hf.out
    rwa [HN.out,List.take_of_length_le (Nat.le_refl _)]at this
   by_cases h8:q≤8
   ·go_wp2_with fail;go_ret;exact⟨bC (by rw[HQ.out];simp;omega),hbw⟩
   ·go_wp2_with fail;go_ret;exact⟨bC (by rw[HQ.out];simp;omega),hbw⟩
theorem aoD (v:Int) (A:Option Addr) (n cap:Nat) (fs:List aT) (w:World) (h:dh w A n fs):
  Calls Tryz.prog 118 #[.int .i64 v,.slice A n cap] w fun e w'=>e= .returned (.bool (sP v fs))∧Below w.heap.size w w':=by
 have p1:=ahr A n cap fs w h
 cases hR:jU fs with
 |false=>
  rw[hR]at p1;have HB:Hid (sP v fs=false):=MV (fun h=>by rw[hR]at h;exact absurd h.1 (by simp));clear hR h;go_enter Tryz.func118,Tryz.ntmps118;go_wp2_with fail
  ((with_reducible refine p1.mono ?_);rintro e w1 ⟨rfl,b1⟩)
  go_wp2_with fail;go_ret;exact⟨bC (by rw[HB.out]),b1⟩
 |true=>
  rw[hR]at p1;have HR:=ah hR;clear hR
  by_cases h8:few fs≤8
  ·have p2:=fun w h=>Z_ A n cap fs w h;rw[show decide (few fs≤8)=true from by simpa using h8]at p2;have H8:=ah h8;clear h8;have P2:=ah p2;clear p2;go_enter Tryz.func118,Tryz.ntmps118;go_wp2_with fail
   ((with_reducible refine p1.mono ?_);rintro e w1 ⟨rfl,b1⟩)
   have h1:=h.below b1;clear h;go_wp2_with fail
   ((with_reducible refine(P2.out _ h1).mono ?_);rintro e w2 ⟨rfl,b2⟩)
   obtain⟨hn,hm,hwf,hc⟩:=h1.below b2;clear h1;have b12:=aA b1 b2;unfold maxLen at hm;have HN:=ah hn;clear hn;have HC:=ah hc;clear hc;go_wp2_with fail;go_loopw [17] (fun i wr=>∃(k:Nat),k≤n∧i= .int .i64 k∧Hid (∀j,j<k→fE v (tg fs j)=false)∧Below w2.heap.size w2 wr) (fun i _=>n-(intOf i).toNat)
   case atStart=>exact⟨0,by omega,rfl,fun j hj=>by omega,Below.refl _ _⟩
   case round=>
    obtain⟨k,hk,rfl,hno,hbw⟩:=hrel
    by_cases hlt:k<n
    ·obtain⟨b,off,hA,hb,hat⟩:=HC.out (by omega);subst hA;have HK:Hid (k<fs.length):=by have:=HN.out;show k<fs.length;omega
     obtain⟨c1,c2⟩:wr.cell? ⟨b,off+k*2,none⟩=some (.int .i64 (tg fs k))∧wr.cell? ⟨b,off+k*2+1,none⟩=some (.string (dt fs k)):=by
      have h:=hat k HK.out;exact⟨(hbw.cell (p:=⟨b,off+k*2,none⟩) hb).trans h.1,(hbw.cell (p:=⟨b,off+k*2+1,none⟩) hb).trans h.2⟩
     clear hat;have p3:=agu v (tg fs k)
     cases hK:fE v (tg fs k)with
     |true=>
      rw[hK]at p3;have HB:Hid (sP v fs=false):=MV (fun h=>by have:=h.2.2 k HK.out;rw[hK]at this;cases this);clear hK;go_wp2_with fail
      ((with_reducible refine(p3 _).mono ?_);rintro e w3 ⟨rfl,rfl⟩)
      go_wp2_with fail;go_ret;exact⟨bC (by rw[HB.out]),aA b12 (hbw.alloc hbw.size _)⟩
     |false=>
      rw[hK]at p3;have HKK:=ah hK;clear hK;go_wp2_with fail
      ((with_reducible refine(p3 _).mono ?_);rintro e w3 ⟨rfl,rfl⟩)
      go_wp2_with fail;go_roundw
      case rel=>exact⟨k+1,by omega,by go_num,fun j hj=>by rcases Nat.lt_or_ge j k with h|h;exact hno.out j h;rw[show j=k by omega];exact HKK.out,hbw.alloc hbw.size _⟩
      case measure=>simp[intOf];omega
    ·have hkn:n=k:=by omega
     subst hkn;have HB:Hid (sP v fs=true):=qB.2 ⟨HR.out,H8.out,by have:=HN.out;rw[←this];exact hno.out⟩;go_wp2_with fail;go_ret;exact⟨bC (by rw[HB.out]),aA b12 hbw⟩
  ·have p2:=fun w h=>Z_ A n cap fs w h;rw[show decide (few fs≤8)=false from by simpa using h8]at p2;have HB:Hid (sP v fs=false):=MV (fun h=>h8 h.2.1);clear h8;have P2:=ah p2;clear p2;go_enter Tryz.func118,Tryz.ntmps118;go_wp2_with fail
   ((with_reducible refine p1.mono ?_);rintro e w1 ⟨rfl,b1⟩)
   have h1:=h.below b1;clear h;go_wp2_with fail
   ((with_reducible refine(P2.out _ h1).mono ?_);rintro e w2 ⟨rfl,b2⟩)
   go_wp2_with fail;go_ret;exact⟨bC (by rw[HB.out]),aA b1 b2⟩
theorem aqi (v:Int) (hv:v=1∨v=2) (r:au) (x:Value) (hr:zK r) (w:World):
  Calls Tryz.prog 117 #[.int .i64 v,iL r x] w fun e w'=>e= .returned (.bool (tq v r))∧Below w.heap.size w w':=by
 obtain⟨key,value,rev,life,note,extra⟩:=r;have hs:note.size≤140737488365000:=hr.2.2;clear hr;have hbw:Below w.heap.size w (w.alloc (.cells #[.string key,.string value,.int .i64 rev,.int .i64 life,.string note,x] 68)):=ak _ _;rcases hv with rfl|rfl
 ·by_cases h1:life=0
  ·subst h1
   by_cases h2:note.size=0
   ·have HB:Hid (tq 1 ⟨key,value,rev,0,note,extra⟩=true):=Eu.2 ⟨rfl,h2⟩;have e1:note.toList=[]:=(pX _).2 h2;clear h2;go_enter Tryz.func117,Tryz.ntmps117;go_wp2_with fail;go_ret;exact⟨bC (by rw[HB.out]),hbw⟩
   ·have HB:Hid (tq 1 ⟨key,value,rev,0,note,extra⟩=false):=by
     show tq _ _=false;rw[Bool.eq_false_iff];intro h;exact h2 (Eu.1 h).2
    have e1:note.toList.isEmpty=false:=by
     rw[Bool.eq_false_iff];intro h;exact h2 ((pX note).1 (by simpa using h))
    clear h2;go_enter Tryz.func117,Tryz.ntmps117;go_wp2_with fail;go_ret;exact⟨bC (by rw[HB.out]),hbw⟩
  ·have HB:Hid (tq 1 ⟨key,value,rev,life,note,extra⟩=false):=by
    show tq _ _=false;rw[Bool.eq_false_iff];intro h;exact h1 (Eu.1 h).1
   have e1:(life==0)=false:=by simpa using h1
   clear h1;go_enter Tryz.func117,Tryz.ntmps117;go_wp2_with fail;go_ret;exact⟨bC (by rw[HB.out]),hbw⟩
 ·have p1:=agm life
  cases h1:lJ life with
  |true=>
   rw[h1]at p1;have hn:0≤life∧life≤9007199254740992:=by simpa[lJ]using h1
   clear h1
   by_cases h2:note.size≤40
   ·have HB:Hid (tq 2 ⟨key,value,rev,life,note,extra⟩=true):=BI.2 ⟨hn.1,hn.2,h2⟩;have h2':(note.size:Int)≤40:=by omega
    clear hn;go_enter Tryz.func117,Tryz.ntmps117;go_wp2_with fail
    ((with_reducible refine(p1 _).mono ?_);rintro e w3 ⟨rfl,rfl⟩)
    go_wp2_with fail;go_ret;exact⟨bC (by rw[HB.out]),hbw⟩
   ·have HB:Hid (tq 2 ⟨key,value,rev,life,note,extra⟩=false):=by
     show tq _ _=false;rw[Bool.eq_false_iff];intro h;exact h2 (BI.1 h).2.2
    have h2':decide ((note.size:Int)≤40)=false:=by simp;omega
    clear hn;go_enter Tryz.func117,Tryz.ntmps117;go_wp2_with fail
    ((with_reducible refine(p1 _).mono ?_);rintro e w3 ⟨rfl,rfl⟩)
    go_wp2_with fail;go_ret;exact⟨bC (by rw[HB.out]),hbw⟩
  |false=>
   rw[h1]at p1;have HB:Hid (tq 2 ⟨key,value,rev,life,note,extra⟩=false):=by
    show tq _ _=false;rw[Bool.eq_false_iff];intro h;have:=BI.1 h;simp[lJ]at h1;simp only at this;omega
   clear h1;go_enter Tryz.func117,Tryz.ntmps117;go_wp2_with fail
   ((with_reducible refine(p1 _).mono ?_);rintro e w3 ⟨rfl,rfl⟩)
   go_wp2_with fail;go_ret;exact⟨bC (by rw[HB.out]),hbw⟩
theorem RU (v:Int) (r:au) (A:Option Addr) (n cap:Nat) (w:World) (hr:zK r) (h:dh w A n r.extra):
  Calls Tryz.prog 70 #[.int .i64 v,iL r (.slice A n cap)] w fun e w'=>e= .returned (.bool (eP v r))∧Below w.heap.size w w':=by
 obtain⟨hs1,hs2,hs3⟩:=hr;have hbw:Below w.heap.size w (w.alloc (.cells (aC r (.slice A n cap)) 68)):=ak _ _;have hno:∀(p:Prop),(kJ v r→p)→¬p→Hid (eP v r=false):=fun p h1 h2=>ahq (fun h=>h2 (h1 h));have bA:=ah hno;clear hno;have p1:=aia v
 cases h1:EF v with
 |false=>
  rw[h1]at p1;have HB:Hid (eP v r=false):=bA.out _ (fun h=>h.1) (by simpa[EF]using h1);clear h1 h;go_enter Tryz.func70,Tryz.ntmps70;go_wp2_with fail
  ((with_reducible refine(p1 _).mono ?_);rintro e w1 ⟨rfl,rfl⟩)
  go_wp2_with fail;go_ret;exact⟨bC (by rw[HB.out]),hbw⟩
 |true=>
  rw[h1]at p1;have hv:v=1∨v=2:=by simpa[EF]using h1
  clear h1;have p2:=agn r.key 16 (by omega)
  cases h2:rV r.key 16 with
  |false=>
   rw[h2]at p2;have HB:Hid (eP v r=false):=bA.out _ (fun h=>h.2.1) (by simp[rV]at h2;omega);clear h2 h hv;go_enter Tryz.func70,Tryz.ntmps70;go_wp2_with fail
   ((with_reducible refine(p1 _).mono ?_);rintro e w1 ⟨rfl,rfl⟩)
   go_wp2_with fail
   ((with_reducible refine(p2 _).mono ?_);rintro e w1 ⟨rfl,rfl⟩)
   go_wp2_with fail;go_ret;exact⟨bC (by rw[HB.out]),hbw⟩
  |true=>
   rw[h2]at p2;have H2:Hid (1≤r.key.size∧r.key.size≤16):=by show _∧_;simp[rV]at h2;omega
   clear h2
   by_cases h3:r.value.size≤200
   ·have p3:=agm r.rev
    cases h4:lJ r.rev with
    |false=>
     rw[h4]at p3;have HB:Hid (eP v r=false):=bA.out _ (fun h=>h.2.2.2.1) (by simp[lJ]at h4;omega);clear h4 h hv;go_enter Tryz.func70,Tryz.ntmps70;go_wp2_with fail
     ((with_reducible refine(p1 _).mono ?_);rintro e w1 ⟨rfl,rfl⟩)
     go_wp2_with fail
     ((with_reducible refine(p2 _).mono ?_);rintro e w1 ⟨rfl,rfl⟩)
     go_wp2_with fail
     ((with_reducible refine(p3 _).mono ?_);rintro e w1 ⟨rfl,rfl⟩)
     go_wp2_with fail;go_ret;exact⟨bC (by rw[HB.out]),hbw⟩
    |true=>
     rw[h4]at p3;have H4:Hid (0≤r.rev∧r.rev≤9007199254740992):=by show _∧_;simpa[lJ]using h4
     clear h4;have p4:=aqi v hv r (.slice A n cap) ⟨hs1,hs2,hs3⟩
     cases h5:tq v r with
     |false=>
      rw[h5]at p4;have HB:Hid (eP v r=false):=bA.out _ (fun h=>h.2.2.2.2.1) (by rw[h5];simp);clear h5 h hv;go_enter Tryz.func70,Tryz.ntmps70;go_wp2_with fail
      ((with_reducible refine(p1 _).mono ?_);rintro e w1 ⟨rfl,rfl⟩)
      go_wp2_with fail
      ((with_reducible refine(p2 _).mono ?_);rintro e w1 ⟨rfl,rfl⟩)
      go_wp2_with fail
      ((with_reducible refine(p3 _).mono ?_);rintro e w1 ⟨rfl,rfl⟩)
      go_wp2_with fail
      ((with_reducible refine(p4 _).mono ?_);rintro e w1 ⟨rfl,b1⟩)
      go_wp2_with fail;go_ret;exact⟨bC (by rw[HB.out]),aA hbw b1⟩
     |true=>
      rw[h5]at p4;have HB:Hid (eP v r=sP v r.extra):=by
       show _=_;rw[Bool.eq_iff_iff,qV];exact⟨fun h=>h.2.2.2.2.2,fun h=>⟨hv,H2.out,h3,H4.out,h5,h⟩⟩
      clear h5 hv;have h0:=h.below hbw;clear h;go_enter Tryz.func70,Tryz.ntmps70;go_wp2_with fail
      ((with_reducible refine(p1 _).mono ?_);rintro e w1 ⟨rfl,rfl⟩)
      go_wp2_with fail
      ((with_reducible refine(p2 _).mono ?_);rintro e w1 ⟨rfl,rfl⟩)
      go_wp2_with fail
      ((with_reducible refine(p3 _).mono ?_);rintro e w1 ⟨rfl,rfl⟩)
      go_wp2_with fail
      ((with_reducible refine(p4 _).mono ?_);rintro e w1 ⟨rfl,b1⟩)
      have c5:w1.cell? ⟨w.heap.size,5,none⟩=some (.slice A n cap):=(b1.cell (p:=⟨w.heap.size,5,none⟩) (by simp)).trans (bJ (World.alloc_heap_new w _) 5);have p5:=aoD v A n cap r.extra w1 (h0.below b1);clear h0;go_wp2_with fail
      ((with_reducible refine p5.mono ?_);rintro e w2 ⟨rfl,b2⟩)
      go_wp2_with fail;go_ret;exact⟨bC (by rw[HB.out]),aA (aA hbw b1) b2⟩
   ·have HB:Hid (eP v r=false):=bA.out _ (fun h=>h.2.2.1) h3;clear h hv;go_enter Tryz.func70,Tryz.ntmps70;go_wp2_with fail
    ((with_reducible refine(p1 _).mono ?_);rintro e w1 ⟨rfl,rfl⟩)
    go_wp2_with fail
    ((with_reducible refine(p2 _).mono ?_);rintro e w1 ⟨rfl,rfl⟩)
    go_wp2_with fail;go_ret;exact⟨bC (by rw[HB.out]),hbw⟩
theorem amk {a b:ByteArray}:a.toList=b.toList↔a=b:=⟨aeg,fun h=>by rw[h]⟩
def kM (a b:au):Bool:=(a.key.toList==b.key.toList)&&(a.value.toList==b.value.toList)&&(a.rev==b.rev)&&(a.life==b.life)&&(a.note.toList==b.note.toList)&&tK a.extra b.extra
theorem abG {a b:au}:kM a b=true↔a=b:=by
 obtain⟨a1,a2,a3,a4,a5,a6⟩:=a;obtain⟨b1,b2,b3,b4,b5,b6⟩:=b;unfold kM;simp only[Bool.and_eq_true,beq_iff_eq,amk,abD,au.mk.injEq];constructor
 ·rintro⟨⟨⟨⟨⟨h1,h2⟩,h3⟩,h4⟩,h5⟩,h6⟩;exact⟨h1,h2,h3,h4,h5,h6⟩
 ·rintro⟨h1,h2,h3,h4,h5,h6⟩;exact⟨⟨⟨⟨⟨h1,h2⟩,h3⟩,h4⟩,h5⟩,h6⟩
theorem aoB (A B:Option Addr) (n m cap cap2:Nat) (fs gs:List aT) (w:World) (h:dh w A n fs) (h2:dh w B m gs):
  Calls Tryz.prog 122 #[.slice A n cap,.slice B m cap2] w fun e w'=>e= .returned (.bool (tK fs gs))∧Below w.heap.size w w':=by
 obtain⟨hn,hm,_,hc⟩:=h;obtain⟨hn2,hm2,_,hc2⟩:=h2;unfold maxLen at hm hm2;have HN:=ah hn;clear hn;have HC:=ah hc;clear hc;have w_:=ah hn2;clear hn2;have zu:=ah hc2;clear hc2
 by_cases hnm:n=m
 ·subst hnm;go_enter Tryz.func122,Tryz.ntmps122;go_wp2_with fail;go_loopw [5,13] (fun _ i wr=>∃k:Nat,k≤n∧i= .int .i64 k∧Hid (∀j,j<k→tg fs j=tg gs j∧(dt fs j).toList=(dt gs j).toList)∧Below w.heap.size w wr) (fun _ i _=>n-(intOf i).toNat)
  case atStart=>exact⟨0,by omega,rfl,fun j hj=>by omega,Below.refl _ _⟩
  case round=>
   obtain⟨k,hk,rfl,hno,hbw⟩:=hrel
   by_cases hlt:k<n
   ·obtain⟨b,off,hA,hb,hat⟩:=HC.out (by omega);subst hA;obtain⟨b2,off2,hA2,hb2,CY⟩:=zu.out (by omega);subst hA2;have HK:Hid (k<fs.length):=by have:=HN.out;show k<fs.length;omega
    obtain⟨c1,c2⟩:wr.cell? ⟨b,off+k*2,none⟩=some (.int .i64 (tg fs k))∧wr.cell? ⟨b,off+k*2+1,none⟩=some (.string (dt fs k)):=by
     have h:=hat k HK.out;exact⟨(hbw.cell (p:=⟨b,off+k*2,none⟩) hb).trans h.1,(hbw.cell (p:=⟨b,off+k*2+1,none⟩) hb).trans h.2⟩
    obtain⟨c3,c4⟩:wr.cell? ⟨b2,off2+k*2,none⟩=some (.int .i64 (tg gs k))∧wr.cell? ⟨b2,off2+k*2+1,none⟩=some (.string (dt gs k)):=by
     have h:=CY k (by have:=w_.out;omega);exact⟨(hbw.cell (p:=⟨b2,off2+k*2,none⟩) hb2).trans h.1,(hbw.cell (p:=⟨b2,off2+k*2+1,none⟩) hb2).trans h.2⟩
    clear hat CY;have hb0:(0:Int)≤(k:Int):=by omega
    have hb1:(k:Int)<(n:Int):=by omega
    have hgu:=afw;have heq:=ae9 (tg fs k) (tg gs k) (dt fs k) (dt gs k)
    by_cases he:tg fs k=tg gs k∧(dt fs k).toList=(dt gs k).toList
    ·have hE:(tg fs k==tg gs k&&(dt fs k).toList==(dt gs k).toList)=true:=by simp[he.1,he.2]
     rw[hE]at heq;have HE:=ah he;clear he hE;go_wp2_with fail;go_quiet (fail);go_wp2;go_roundw
     case rel=>exact⟨k+1,by omega,by go_num,fun j hj=>by rcases Nat.lt_or_ge j k with h|h;exact hno.out j h;rw[show j=k by omega];exact HE.out,jL hbw _⟩
     case measure=>simp[intOf];omega
    ·have hE:(tg fs k==tg gs k&&(dt fs k).toList==(dt gs k).toList)=false:=by simpa using he
     have HR:Hid (tK fs gs=false):=ahz (i:=k) (by by_cases h:tg fs k=tg gs k;exact .inr (fun h3=>he ⟨h,h3⟩);exact .inl h);rw[hE]at heq;clear he hE;go_wp2_with fail;go_quiet (fail);go_wp2;go_ret;exact⟨bC HR.out.symm,jL hbw _⟩
   ·have hkn:n=k:=by omega
    subst hkn;have HR:Hid (tK fs gs=true):=ahB (by have:=HN.out;have:=w_.out;omega) (by have:=HN.out;rw[←this];exact hno.out);go_wp2_with fail;go_ret;exact⟨bC HR.out.symm,hbw⟩
 ·have HR:Hid (tK fs gs=false):=ahA (by have:=HN.out;have:=w_.out;omega);have hd:((n:Int) != (m:Int))=true:=by simp;omega
  go_enter Tryz.func122,Tryz.ntmps122;go_wp2_with fail;go_ret;exact⟨bC HR.out.symm,Below.refl _ _⟩
theorem arO (a b:au) (A B:Option Addr) (n m cap cap2:Nat) (w:World) (h:dh w A n a.extra) (h2:dh w B m b.extra):
  Calls Tryz.prog 76 #[iL a (.slice A n cap),iL b (.slice B m cap2)] w fun e w'=>e= .returned (.bool (kM a b))∧Below w.heap.size w w':=by
 have hb1:Below w.heap.size w (w.alloc (.cells (aC a (.slice A n cap)) 68)):=ak _ _;have hb2:Below w.heap.size w ((w.alloc (.cells (aC a (.slice A n cap)) 68)).alloc (.cells (aC b (.slice B m cap2)) 68)):=hb1.alloc hb1.size _;have p1:=aoB A B n m cap cap2 a.extra b.extra _ (h.below hb2) (h2.below hb2);clear h h2 hb1;obtain⟨a1,a2,a3,a4,a5,a6⟩:=a;obtain⟨b1,b2,b3,b4,b5,b6⟩:=b;simp only at p1
 by_cases h1:(a1.toList==b1.toList)=true
 ·by_cases h2:(a2.toList==b2.toList)=true
  ·by_cases h3:(a3==b3)=true
   ·by_cases h4:(a4==b4)=true
    ·by_cases h5:(a5.toList==b5.toList)=true
     ·have HB:Hid (kM ⟨a1,a2,a3,a4,a5,a6⟩ ⟨b1,b2,b3,b4,b5,b6⟩=tK a6 b6):=by show _=_;unfold kM;simp only[h1,h2,h3,h4,h5,Bool.true_and]
      go_enter Tryz.func76,Tryz.ntmps76;go_wp2_with fail
      ((with_reducible refine p1.mono ?_);rintro e w1 ⟨rfl,b1⟩)
      go_wp2_with fail;go_ret;exact⟨bC (by rw[HB.out]),hb2.trans (b1.mono hb2.size)⟩
     ·have h5':(a5.toList==b5.toList)=false:=by simpa using h5
      have HB:Hid (kM ⟨a1,a2,a3,a4,a5,a6⟩ ⟨b1,b2,b3,b4,b5,b6⟩=false):=by show _=_;unfold kM;simp only[h5',Bool.false_and,Bool.and_false]
      clear h5;go_enter Tryz.func76,Tryz.ntmps76;go_wp2_with fail;go_ret;exact⟨bC (by rw[HB.out]),hb2⟩
    ·have h4':(a4==b4)=false:=by simpa using h4
     have HB:Hid (kM ⟨a1,a2,a3,a4,a5,a6⟩ ⟨b1,b2,b3,b4,b5,b6⟩=false):=by show _=_;unfold kM;simp only[h4',Bool.false_and,Bool.and_false]
     clear h4;go_enter Tryz.func76,Tryz.ntmps76;go_wp2_with fail;go_ret;exact⟨bC (by rw[HB.out]),hb2⟩
   ·have h3':(a3==b3)=false:=by simpa using h3
    have HB:Hid (kM ⟨a1,a2,a3,a4,a5,a6⟩ ⟨b1,b2,b3,b4,b5,b6⟩=false):=by show _=_;unfold kM;simp only[h3',Bool.false_and,Bool.and_false]
    clear h3;go_enter Tryz.func76,Tryz.ntmps76;go_wp2_with fail;go_ret;exact⟨bC (by rw[HB.out]),hb2⟩
  ·have h2':(a2.toList==b2.toList)=false:=by simpa using h2
   have HB:Hid (kM ⟨a1,a2,a3,a4,a5,a6⟩ ⟨b1,b2,b3,b4,b5,b6⟩=false):=by show _=_;unfold kM;simp only[h2',Bool.false_and,Bool.and_false]
   clear h2;go_enter Tryz.func76,Tryz.ntmps76;go_wp2_with fail;go_ret;exact⟨bC (by rw[HB.out]),hb2⟩
 ·have h1':(a1.toList==b1.toList)=false:=by simpa using h1
  have HB:Hid (kM ⟨a1,a2,a3,a4,a5,a6⟩ ⟨b1,b2,b3,b4,b5,b6⟩=false):=by show _=_;unfold kM;simp only[h1',Bool.false_and]
  clear h1;go_enter Tryz.func76,Tryz.ntmps76;go_wp2_with fail;go_ret;exact⟨bC (by rw[HB.out]),hb2⟩
theorem ar8 (a b:au) (A B:Option Addr) (n m cap cap2:Nat) (w:World) (h:dh w A n a.extra) (h2:dh w B m b.extra):
  Calls Tryz.prog 69 #[iL a (.slice A n cap),iL b (.slice B m cap2)] w fun e w'=>e= .returned (.bool (kM a b))∧Below w.heap.size w w':=by
 have hb1:Below w.heap.size w (w.alloc (.cells (aC a (.slice A n cap)) 68)):=ak _ _;have hb2:Below w.heap.size w ((w.alloc (.cells (aC a (.slice A n cap)) 68)).alloc (.cells (aC b (.slice B m cap2)) 68)):=hb1.alloc hb1.size _;have p1:=as0 A B n m cap cap2 a.extra b.extra _ (h.below hb2) (h2.below hb2);clear h h2 hb1;obtain⟨a1,a2,a3,a4,a5,a6⟩:=a;obtain⟨b1,b2,b3,b4,b5,b6⟩:=b;simp only at p1
 by_cases h1:(a1.toList==b1.toList)=true
 ·by_cases h2:(a2.toList==b2.toList)=true
  ·by_cases h3:(a3==b3)=true
   ·by_cases h4:(a4==b4)=true
    ·by_cases h5:(a5.toList==b5.toList)=true
     ·have HB:Hid (kM ⟨a1,a2,a3,a4,a5,a6⟩ ⟨b1,b2,b3,b4,b5,b6⟩=tK a6 b6):=by show _=_;unfold kM;simp only[h1,h2,h3,h4,h5,Bool.true_and]
      go_enter Tryz.func69,Tryz.ntmps69;go_wp2_with fail
      ((with_reducible refine p1.mono ?_);rintro e w1 ⟨rfl,b1⟩)
      go_wp2_with fail;go_ret;exact⟨bC (by rw[HB.out]),hb2.trans (b1.mono hb2.size)⟩
     ·have h5':(a5.toList==b5.toList)=false:=by simpa using h5
      have HB:Hid (kM ⟨a1,a2,a3,a4,a5,a6⟩ ⟨b1,b2,b3,b4,b5,b6⟩=false):=by show _=_;unfold kM;simp only[h5',Bool.false_and,Bool.and_false]
      clear h5;go_enter Tryz.func69,Tryz.ntmps69;go_wp2_with fail;go_ret;exact⟨bC (by rw[HB.out]),hb2⟩
    ·have h4':(a4==b4)=false:=by simpa using h4
     have HB:Hid (kM ⟨a1,a2,a3,a4,a5,a6⟩ ⟨b1,b2,b3,b4,b5,b6⟩=false):=by show _=_;unfold kM;simp only[h4',Bool.false_and,Bool.and_false]
     clear h4;go_enter Tryz.func69,Tryz.ntmps69;go_wp2_with fail;go_ret;exact⟨bC (by rw[HB.out]),hb2⟩
   ·have h3':(a3==b3)=false:=by simpa using h3
    have HB:Hid (kM ⟨a1,a2,a3,a4,a5,a6⟩ ⟨b1,b2,b3,b4,b5,b6⟩=false):=by show _=_;unfold kM;simp only[h3',Bool.false_and,Bool.and_false]
    clear h3;go_enter Tryz.func69,Tryz.ntmps69;go_wp2_with fail;go_ret;exact⟨bC (by rw[HB.out]),hb2⟩
  ·have h2':(a2.toList==b2.toList)=false:=by simpa using h2
   have HB:Hid (kM ⟨a1,a2,a3,a4,a5,a6⟩ ⟨b1,b2,b3,b4,b5,b6⟩=false):=by show _=_;unfold kM;simp only[h2',Bool.false_and,Bool.and_false]
   clear h2;go_enter Tryz.func69,Tryz.ntmps69;go_wp2_with fail;go_ret;exact⟨bC (by rw[HB.out]),hb2⟩
 ·have h1':(a1.toList==b1.toList)=false:=by simpa using h1
  have HB:Hid (kM ⟨a1,a2,a3,a4,a5,a6⟩ ⟨b1,b2,b3,b4,b5,b6⟩=false):=by show _=_;unfold kM;simp only[h1',Bool.false_and]
  clear h1;go_enter Tryz.func69,Tryz.ntmps69;go_wp2_with fail;go_ret;exact⟨bC (by rw[HB.out]),hb2⟩
theorem ar7 (v t:Int) (hv:v=1∨v=2) (w:World):Calls Tryz.prog 110 #[.int .i64 v,.int .i64 t] w fun e w'=>e= .returned (.bool (fE v t))∧w=w':=by
 by_cases h1:1≤t
 ·rcases hv with rfl|rfl
  ·by_cases h2:t≤3
   ·have HB:Hid (fE 1 t=true):=BG.2 ⟨h1,h2⟩;go_enter Tryz.func110,Tryz.ntmps110;go_wp2;go_ret;exact⟨bC (by rw[HB.out]),rfl⟩
   ·have HB:Hid (fE 1 t=false):=BH.2 (fun h=>h2 h.2);go_enter Tryz.func110,Tryz.ntmps110;go_wp2;go_ret;exact⟨bC (by rw[HB.out]),rfl⟩
  ·by_cases h2:t≤5
   ·have HB:Hid (fE 2 t=true):=BG.2 ⟨h1,h2⟩;go_enter Tryz.func110,Tryz.ntmps110;go_wp2;go_ret;exact⟨bC (by rw[HB.out]),rfl⟩
   ·have HB:Hid (fE 2 t=false):=BH.2 (fun h=>h2 h.2);go_enter Tryz.func110,Tryz.ntmps110;go_wp2;go_ret;exact⟨bC (by rw[HB.out]),rfl⟩
 ·have HB:Hid (fE v t=false):=BH.2 (fun h=>h1 h.1);go_enter Tryz.func110,Tryz.ntmps110;go_wp2;go_ret;exact⟨bC (by rw[HB.out]),rfl⟩
theorem ar6 (v:Int) (hv:v=1∨v=2) (A:Option Addr) (n cap:Nat) (fs:List aT) (w:World) (h:dh w A n fs):
  Calls Tryz.prog 121 #[.int .i64 v,.slice A n cap] w fun e w'=>e= .returned (.bool (sP v fs))∧Below w.heap.size w w':=by
 have p1:=asf A n cap fs w h;obtain⟨hn,hm,hwf,hc⟩:=h;unfold maxLen at hm;have HN:=ah hn;clear hn;have HC:=ah hc;clear hc;go_enter Tryz.func121,Tryz.ntmps121;go_wp2_with fail
 go_loop [5,6] (fun a i=>∃(k q:Nat),k≤n∧q≤k∧i= .int .i64 k∧a= .int .i64 q∧Hid (few (fs.take k)=q)∧Hid (∀j,j<k→fE v (tg fs j)=false)) (fun _ i=>n-(intOf i).toNat)
 case atStart=>exact⟨0,0,by omega,by omega,rfl,rfl,rfl,fun j hj=>by omega⟩
 case round=>
  obtain⟨k,q,hk,hq,rfl,rfl,hf,hno⟩:=hrel
  by_cases hlt:k<n
  ·obtain⟨b,off,hA,hb,hat⟩:=HC.out (by omega);subst hA;have HK:Hid (k<fs.length):=by have:=HN.out;show k<fs.length;omega
   obtain⟨c1,c2⟩:w.cell? ⟨b,off+k*2,none⟩=some (.int .i64 (tg fs k))∧w.cell? ⟨b,off+k*2+1,none⟩=some (.string (dt fs k)):=hat k HK.out;clear hat;have p3:=ar7 v (tg fs k) hv
   cases hK:fE v (tg fs k)with
   |true=>
    rw[hK]at p3;have HB:Hid (sP v fs=false):=MV (fun h=>by have:=h.2.2 k HK.out;rw[hK]at this;cases this);clear hK hv p1;go_wp2_with fail
    ((with_reducible refine(p3 _).mono ?_);rintro e w3 ⟨rfl,rfl⟩)
    go_wp2_with fail;go_ret;exact⟨bC (by rw[HB.out]),Below.refl _ _⟩
   |false=>
    rw[hK]at p3;have HKK:=ah hK;clear hK;have lT:Hid (∀j,j<k+1→fE v (tg fs j)=false):=fun j hj=>by
     rcases Nat.lt_or_ge j k with h|h
     ·exact hno.out j h
     ·rw[show j=k by omega];exact HKK.out
    clear hv p1
    by_cases h4:tg fs k=4
    ·have HS:Hid (few (fs.take (k+1))=q):=(MW HK.out).trans (by rw[hf.out,if_neg (by simp[h4])];rfl);have e4:(tg fs k != 4)=false:=by simpa using h4
     clear h4;go_wp2_with fail
     ((with_reducible refine(p3 _).mono ?_);rintro e w3 ⟨rfl,rfl⟩)
     go_wp2_with fail
     go_round
     case rel=>exact⟨k+1,q,by omega,by omega,by go_num,rfl,HS,lT⟩
     case measure=>simp[intOf];omega
    ·by_cases h5:tg fs k=5
     ·have HS:Hid (few (fs.take (k+1))=q):=(MW HK.out).trans (by rw[hf.out,if_neg (by simp[h5])];rfl);have e4:(tg fs k != 4)=true:=by simpa using h4
      have e5:(tg fs k != 5)=false:=by simpa using h5
      clear h4 h5;go_wp2_with fail
      ((with_reducible refine(p3 _).mono ?_);rintro e w3 ⟨rfl,rfl⟩)
      go_wp2_with fail
      go_round
      case rel=>exact⟨k+1,q,by omega,by omega,by go_num,rfl,HS,lT⟩
      case measure=>simp[intOf];omega
     ·have HS:Hid (few (fs.take (k+1))=q+1):=(MW HK.out).trans (by rw[hf.out,if_pos ⟨h4,h5⟩]);have e4:(tg fs k != 4)=true:=by simpa using h4
      have e5:(tg fs k != 5)=true:=by simpa using h5
      clear h4 h5;go_wp2_with fail
      ((with_reducible refine(p3 _).mono ?_);rintro e w3 ⟨rfl,rfl⟩)
      go_wp2_with fail
      go_round
      case rel=>exact⟨k+1,q+1,by omega,by omega,by go_num,by go_num,HS,lT⟩
      case measure=>simp[intOf];omega
  ·have hkn:n=k:=by omega
   subst hkn;have HQ:Hid (few fs=q):=by
    have:=hf.out
    rwa [HN.out,List.take_of_length_le (Nat.le_refl _)]at this
   have HU:Hid (∀j,j<fs.length→fE v (tg fs j)=false):=by
    have:=hno.out
    rwa [HN.out]at this
   cases hR:jU fs with
   |false=>
    rw[hR]at p1;have HB:Hid (sP v fs=false):=MV (fun h=>by rw[hR]at h;exact absurd h.1 (by simp));clear hR hv;go_wp2_with fail
    ((with_reducible refine p1.mono ?_);rintro e w3 ⟨rfl,b1⟩)
    go_wp2_with fail;go_ret;exact⟨bC (by rw[HB.out]),b1⟩
   |true=>
    rw[hR]at p1
    by_cases h8:q≤8
    ·have HB:Hid (sP v fs=true):=qB.2 ⟨hR,by rw[HQ.out];exact h8,HU.out⟩;clear hR hv;go_wp2_with fail
     ((with_reducible refine p1.mono ?_);rintro e w3 ⟨rfl,b1⟩)
     go_wp2_with fail;go_ret;exact⟨bC (by rw[HB.out];simp;omega),b1⟩
    ·have HB:Hid (sP v fs=false):=MV (fun h=>h8 (by have:=h.2.1;rw[HQ.out]at this;exact this));clear hR hv;go_wp2_with fail
     ((with_reducible refine p1.mono ?_);rintro e w3 ⟨rfl,b1⟩)
     go_wp2_with fail;go_ret;exact⟨bC (by rw[HB.out];simp;omega),b1⟩
theorem aum {s:ByteArray} (h:s.size≠0):s.toList.isEmpty=false:=by
 rw[Bool.eq_false_iff];intro h2;exact h ((pX s).1 (by simpa using h2))
theorem ase (v:Int) (r:au) (A:Option Addr) (n cap:Nat) (w:World) (hr:zK r) (h:dh w A n r.extra):
  Calls Tryz.prog 73 #[.int .i64 v,iL r (.slice A n cap)] w fun e w'=>e= .returned (.bool (eP v r))∧Below w.heap.size w w':=by
 obtain⟨hs1,hs2,hs3⟩:=hr;have hbw:Below w.heap.size w (w.alloc (.cells (aC r (.slice A n cap)) 68)):=ak _ _;have hno:∀(p:Prop),(kJ v r→p)→¬p→Hid (eP v r=false):=fun p h1 h2=>ahq (fun h=>h2 (h1 h));have bA:=ah hno;clear hno;have h0:=h.below hbw;clear h
 by_cases hv:v=1∨v=2
 rotate_left
 ·have HB:=bA.out _ (fun h=>h.1) hv;have e1:(v != 1)=true:=by simp;exact fun h=>hv (.inl h)
  have e2:(v != 2)=true:=by simp;exact fun h=>hv (.inr h)
  clear hv h0;go_enter Tryz.func73,Tryz.ntmps73;go_wp2_with fail;go_ret;exact⟨bC (by rw[HB.out]),hbw⟩
 have I4:(v != 1)=true∧(v != 2)=false∨(v != 1)=false:=by
  rcases hv with rfl|rfl
  ·exact .inr rfl
  ·exact .inl ⟨rfl,rfl⟩
 by_cases h2:1≤r.key.size∧r.key.size≤16
 rotate_left
 ·have HB:=bA.out _ (fun h=>h.2.1) h2;clear h0 hv;rcases(by omega:(r.key.size:Int)<1∨1≤(r.key.size:Int)∧16<(r.key.size:Int))with h3|⟨h3,h4⟩<;>rcases I4 with⟨e1,e2⟩|e1<;>clear h2<;>(go_enter Tryz.func73,Tryz.ntmps73;go_wp2_with fail;go_ret;exact⟨bC (by rw[HB.out]),hbw⟩)
 have k1:1≤(r.key.size:Int):=by omega
 have k2:(r.key.size:Int)≤16:=by omega
 by_cases h3:r.value.size≤200
 rotate_left
 ·have HB:=bA.out _ (fun h=>h.2.2.1) h3;clear h0 hv;have k3:200<(r.value.size:Int):=by omega
  clear h2 h3;rcases I4 with⟨e1,e2⟩|e1<;>(go_enter Tryz.func73,Tryz.ntmps73;go_wp2_with fail;go_ret;exact⟨bC (by rw[HB.out]),hbw⟩)
 have k3:(r.value.size:Int)≤200:=by omega
 by_cases h4:0≤r.rev∧r.rev≤9007199254740992
 rotate_left
 ·have HB:=bA.out _ (fun h=>h.2.2.2.1) h4;clear h0 hv h2 h3;rcases(by omega:r.rev<0∨0≤r.rev∧9007199254740992<r.rev)with h5|⟨h5,h6⟩<;>rcases I4 with⟨e1,e2⟩|e1<;>clear h4<;>(go_enter Tryz.func73,Tryz.ntmps73;go_wp2_with fail;go_ret;exact⟨bC (by rw[HB.out]),hbw⟩)
 obtain⟨k4,k5⟩:=h4
 cases h5:tq v r with
 |false=>
  have HB:=bA.out _ (fun h=>h.2.2.2.2.1) (by rw[h5];simp);clear h0 I4;rcases hv with rfl|rfl
  ·have h6:¬(r.life=0∧r.note.size=0):=fun h=>by rw[Eu.2 h]at h5;cases h5
   clear h5 h2 h3
   by_cases h7:r.life=0
   ·have e6:(r.life != 0)=false:=by simpa using h7
    have e7:r.note.toList.isEmpty=false:=aum (fun h=>h6 ⟨h7,h⟩);have e8:r.note.toList≠[]:=by intro h;rw[h]at e7;cases e7
    clear h6 h7;go_enter Tryz.func73,Tryz.ntmps73;go_wp2_with fail;go_ret;exact⟨bC (by rw[HB.out]),hbw⟩
   ·have e6:(r.life != 0)=true:=by simpa using h7
    clear h6 h7;go_enter Tryz.func73,Tryz.ntmps73;go_wp2_with fail;go_ret;exact⟨bC (by rw[HB.out]),hbw⟩
  ·have h6:¬(0≤r.life∧r.life≤9007199254740992∧r.note.size≤40):=fun h=>by rw[BI.2 h]at h5;cases h5
   clear h5 h2 h3;rcases(by omega:r.life<0∨0≤r.life∧9007199254740992<r.life∨0≤r.life∧r.life≤9007199254740992∧40<(r.note.size:Int))with h7|⟨h7,h8⟩|⟨h7,h8,h9⟩<;>clear h6<;>(go_enter Tryz.func73,Tryz.ntmps73;go_wp2_with fail;go_ret;exact⟨bC (by rw[HB.out]),hbw⟩)
 |true=>
  have HB:Hid (eP v r=sP v r.extra):=by
   show _=_;rw[Bool.eq_iff_iff,qV];exact⟨fun h=>h.2.2.2.2.2,fun h=>⟨hv,h2,h3,⟨k4,k5⟩,h5,h⟩⟩
  have p5:=ar6 v hv A n cap r.extra _ h0;clear h0 I4;rcases hv with rfl|rfl
  ·obtain⟨h6,h7⟩:=Eu.1 h5;have e6:(r.life != 0)=false:=by simpa using h6
   have e7:r.note.toList=[]:=(pX _).2 h7;have e8:0≤r.life:=by omega
   have e9:r.life≤9007199254740992:=by omega
   have e10:(r.note.size:Int)≤40:=by omega
   clear h5 h6 h7 h2 h3;go_enter Tryz.func73,Tryz.ntmps73;go_wp2_with fail
   ((with_reducible refine p5.mono ?_);rintro e w3 ⟨rfl,b1⟩)
   go_wp2_with fail;go_ret;exact⟨bC (by rw[HB.out]),aA hbw b1⟩
  ·obtain⟨h6,h7,h8⟩:=BI.1 h5;have e10:(r.note.size:Int)≤40:=by omega
   clear h5 h2 h3 h8;go_enter Tryz.func73,Tryz.ntmps73;go_wp2_with fail
   ((with_reducible refine p5.mono ?_);rintro e w3 ⟨rfl,b1⟩)
   go_wp2_with fail;go_ret;exact⟨bC (by rw[HB.out]),aA hbw b1⟩
end Go.Proofs.YtodaapcohdpenaaGreat
