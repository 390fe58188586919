-- eB
import Derived.Test.YtodaapcohdpenaaGreatRows
import Derived.Test.YtodaapcohdpenaaGreatGMath
import Derived.Test.YtodaapcohdpenaaGreatGPick
import Derived.WalkKit
import Derived.ProofKit
import Derived.Lib.Hide
import Derived.RangeFuncNested
import Derived.RangeFuncCalls
import Derived.RangeFuncLeaves
import Derived.Shelf.Abstract
import Derived.Shelf.RegionOpen
import Derived.OwnWalkIn
import Derived.TacticsInMore
import Derived.LoopNIn
import Derived.LoopIn
import Derived.Maps.AppendAt
import Derived.RegionIn
import Derived.BigRegionIn
set_option maxHeartbeats 2000000
set_option maxRecDepth 100000
namespace Go.Proofs.YtodaapcohdpenaaGreat
open Go.RowKit
def bs (l:List UInt8):ByteArray:=⟨l.toArray⟩
theorem mR (l:List UInt8):(bs l).size=l.length:=by show l.toArray.size=_;simp
end Go.Proofs.YtodaapcohdpenaaGreat
namespace Go.Proofs.YtodaapcohdpenaaGreat
open Go Go.RowKit
def Zb {α:Type} (n:Nat) (P:Program) (gf:Nat) (lb:Array Value) (encs:α→Array Value) (St Kp:World→World→Prop) (S Sp:List α→Prop) (Nx:List α→α→Prop) (w:World):Prop:=
 ∀(l:Nat) (J Jx:List α→World→Prop) (W:World),Below w.heap.size w W→(∀s A B,J s A→St A B→J s B)→(∀s A B,Jx s A→St A B→Jx s B)→
  (∀pre x W1,J pre W1→Nx pre x→YieldAt Fence.wide (n-1) P l (encs x) W1 fun e W'=>
   (e= .returned (.bool true)∧J (pre++[x]) W'∧Kp W1 W')∨(e= .returned (.bool false)∧Jx (pre++[x]) W'))→
  J [] W→
  CallsIn Fence.wide n P gf (#[.func (.yield l) #[] #[]]++lb) W fun e W'=>(∃v,e= .returned v)∧((∃xs,S xs∧J xs W')∨(∃pre,Sp pre∧Jx pre W'))
theorem ag2 {n:Nat} {P:Program} {α:Type} {g:Operand} {ps:Array Tmp} {assign body:Code} {Q:Exit→Act→World→Prop} {a:Act} {w:World}
  (h1:1≤n) {gf:Nat} {lb:Array Value} (hg:a.eval g= .func (.func gf) #[] lb) (eg:∀args w,(callFunc gf args).run P w= .ok (.enter gf args) w)
  {encs:α→Array Value} {St Kp:World→World→Prop} {S Sp:List α→Prop} {Nx:List α→α→Prop} (hseq:Zb (n-1) P gf lb encs St Kp S Sp Nx w)
  (hKt:∀{A B C:World},Kp A B→Kp B C→Kp A C) (hKb:∀(W:World) (l:Nat) (o':Obj),w.heap.size≤l→Kp W (W.putObj l o'))
  (hSt:∀{A B:World},St A B→KeepsFrom w.heap.size A B) (hps:∀x,(encs x).size=ps.size)
  (I:List α→World→Prop) (Ix:Code→List α→World→Prop) (hI:OwnFrom w.heap.size I) (hIx:∀c,OwnFrom w.heap.size (Ix c))
  (hIs:∀s A B,I s A→St A B→I s B) (aph:∀c s A B,Ix c s A→St A B→Ix c s B) (h0:I [] w) (a₁:α→Act)
  (hassign:∀(l:Nat) (x:α) (W:World) (K:Act→World→Prop),K (a₁ x) W→
   assign.wpIn (Fence.wide.inRound l) (n-1-1) P (Exit.then K (fun _ _ _=>False)) { tmps:=(ps.zip (encs x)).foldl (fun t (p,v)=>t.setIfInBounds p v) a.tmps,defers:=[] } W)
  (hbody:∀(l:Nat) (pre:List α) (x:α) (W:World),I pre W→Nx pre x→body.wpIn (Fence.wide.inRound l) (n-1-1) P (ownPostG w.heap.size Kp I Ix (pre++[x]) W) (a₁ x) W)
  (hdone:∀(D:Nat) (xs:List α) (W:World),w.heap.size≤D→S xs→I xs W→W.heap[D]? =some (.deferred (some []))→Q .normal { a with defers:={ target:=.collected D,args:=#[] }::a.defers } W)
  (hstop:∀(D:Nat) (c:Code) (pre:List α) (W:World),w.heap.size≤D→Sp pre→Ix c pre W→W.heap[D]? =some (.deferred (some []))→c.wpIn Fence.wide n P Q { a with defers:={ target:=.collected D,args:=#[] }::a.defers } W):
  (Code.rangeFunc g ps assign body).wpIn Fence.wide n P Q a w:=by
 refine wpIn_rangeFunc fun fn hfn=>?_;rw[show Fence.wide.round=none from rfl]
 -- the loop's record,and the two blocks of its book-keeping
 obtain⟨rec,hrec⟩:∃rec:LoopState→Option Code→Loop,rec=fun st pe=>{ state:=st,pending:=pe,fn,tmps:=a.tmps,params:=ps,assign,body,defers:=w.heap.size }:=⟨_,rfl⟩;obtain⟨W1,hW1⟩:∃W1,(w.alloc (.deferred (some []))).alloc (.loop (rec .ready none))=W1:=⟨_,rfl⟩;have FJ:W1.heap[w.heap.size+1]? =some (.loop (rec .ready none)):=by
  rw[←hW1];have:=World.alloc_heap_new (w.alloc (.deferred (some []))) (.loop (rec .ready none));rwa [World.size_alloc]at this
 have hD1:W1.heap[w.heap.size]? =some (.deferred (some [])):=by
  rw[←hW1];exact(Below.heap_alloc _ _ _ (by simp)).trans (World.alloc_heap_new w _)
 have hI1:I [] W1:=by rw[←hW1];exact hI.alloc _ (hI.alloc _ h0)
 have hb1:Below w.heap.size w W1:=by
  rw[←hW1];exact((Below.refl _ w).alloc (Nat.le_refl _) _).alloc (by simp) _
 refine⟨w.heap.size+1,[{ target:=.collected w.heap.size,args:=#[] }],W1,{ target:=.fn (.func gf) lb,args:=#[.func (.yield (w.heap.size+1)) #[] #[]] },W1,gf,
  #[.func (.yield (w.heap.size+1)) #[] #[]]++lb,W1,?_,?_,fun _ _=>trivial,?_,fun _=>h1,?_⟩
 ·rw[←hW1,hrec];exact run_enterLoop_outer _ _ _ _ _
 ·simp only[resolve,hg];simp[go_sem]
 ·simp[invoke,go_sem,eg]
 ·refine(hseq (w.heap.size+1)
   (fun pre W=>I pre W∧W.heap[w.heap.size+1]? =some (.loop (rec .ready none))∧W.heap[w.heap.size]? =some (.deferred (some [])))
   (fun pre W=>∃c,Ix c pre W∧W.heap[w.heap.size+1]? =some (.loop (rec .done (some c)))∧W.heap[w.heap.size]? =some (.deferred (some [])))
   W1 hb1
   (fun s A B hs hst=>⟨hIs s A B hs.1 hst,(hSt hst).same _ _ (by omega) hs.2.1 rfl,(hSt hst).same _ _ (Nat.le_refl _) hs.2.2 rfl⟩)
   (fun s A B hs hst=>by
    obtain⟨c,hc,hl,hk⟩:=hs;exact⟨c,aph c s A B hc hst,(hSt hst).same _ _ (by omega) hl rfl,(hSt hst).same _ _ (Nat.le_refl _) hk rfl⟩)
   ?_ ⟨hI1,FJ,hD1⟩).mono ?_
  ·-- one round
   rintro pre x W ⟨hi,hl,hk⟩ hlen;have hlt:w.heap.size+1<W.heap.size:=(Array.getElem?_eq_some_iff.1 hl).1;have hy:=run_yield (P:=P) (args:=encs x) hl (by rw[hrec];exact hps x);rw[hrec]at hy;refine⟨fn,_,assign,body,hy,roundIn_of_wpIn hfn (hassign _ x W _ ⟨_,run_beginRound hl (by rw[hrec]),?_⟩)⟩;obtain⟨W2,hW2⟩:∃W2,W.putObj (w.heap.size+1) (.loop { rec .ready none with state:=.busy })=W2:=⟨_,rfl⟩;have hl2:W2.heap[w.heap.size+1]? =some (.loop { rec .ready none with state:=.busy }):=by rw[←hW2];exact World.putObj_heap_same hlt
   have hk2:W2.heap[w.heap.size]? =some (.deferred (some [])):=by rw[←hW2];exact(World.putObj_heap_other (by omega)).trans hk
   have hw2:Kp W W2:=by rw[←hW2];exact hKb _ _ _ (by omega)
   have hi2:I pre W2:=by rw[←hW2];exact hI.putObj _ hi (by omega) hl rfl
   rw[hW2];refine wpIn_mono (hbody _ pre x W2 hi2 hlen) ?_;have fin:∀(jump:Option Code) (W3:World),KeepsFrom w.heap.size W2 W3→∃W4,W4=W3.putObj (w.heap.size+1) (.loop (rec (if jump.isNone then .ready else .done) jump))∧
     (Instr.endRound (w.heap.size+1) jump).run P W3= .ok (.bool jump.isNone) W4∧
     (∃o,W3.heap[w.heap.size+1]? =some o∧o.isCells=false)∧
     W4.heap[w.heap.size+1]? =some (.loop (rec (if jump.isNone then .ready else .done) jump))∧W4.heap[w.heap.size]? =some (.deferred (some [])):=fun jump W3 hk3=>by
    have hl3:=hk3.same _ _ (by omega) hl2 rfl;have hend:=run_endRound (P:=P) jump hl3;rw[hrec]at hend ⊢;exact⟨_,rfl,hend,⟨_,hl3,rfl⟩,World.putObj_heap_same (Array.getElem?_eq_some_iff.1 hl3).1,(World.putObj_heap_other (by omega)).trans (hk3.same _ _ (Nat.le_refl _) hk2 rfl)⟩
   rintro e a3 W3 hp
   cases e with
   |normal=>
    obtain⟨W4,rfl,hr,⟨o,ho,hoc⟩,hl4,hk4⟩:=fin none W3 hp.1;exact⟨_,_,hr,.inl ⟨rfl,⟨hI.putObj _ hp.2.2 (by omega) ho hoc,hl4,hk4⟩,hKt (hKt hw2 hp.2.1) (hKb _ _ _ (by omega))⟩⟩
   |ret=>
    obtain⟨W4,rfl,hr,⟨o,ho,hoc⟩,hl4,hk4⟩:=fin (some .ret) W3 hp.1;exact⟨_,_,hr,.inr ⟨rfl,.ret,(hIx _).putObj _ hp.2 (by omega) ho hoc,hl4,hk4⟩⟩
   |exit id=>
    obtain⟨W4,rfl,hr,⟨o,ho,hoc⟩,hl4,hk4⟩:=fin (some (.exit id)) W3 hp.1;exact⟨_,_,hr,.inr ⟨rfl,.exit id,(hIx _).putObj _ hp.2 (by omega) ho hoc,hl4,hk4⟩⟩
   |goto t=>
    obtain⟨W4,rfl,hr,⟨o,ho,hoc⟩,hl4,hk4⟩:=fin (some (.goto t)) W3 hp.1;exact⟨_,_,hr,.inr ⟨rfl,.goto t,(hIx _).putObj _ hp.2 (by omega) ho hoc,hl4,hk4⟩⟩
   |panic ch=>exact hp.elim
   |outgrown=>exact hp.elim
  ·-- behind the iterator
   rintro e W2 ⟨⟨v,rfl⟩,(⟨xs,hS,hi,hl,hk⟩|⟨pre,hSp,c,hi,hl,hk⟩)⟩
   ·exact⟨none,_,by have:=run_endLoop (P:=P) hl (by rw[hrec];simp);rw[hrec]at this;exact this,hdone _ xs _ (Nat.le_refl _) hS (hI.putObj _ hi (by omega) hl rfl) ((World.putObj_heap_other (by omega)).trans hk)⟩
   ·exact⟨some c,_,by have:=run_endLoop (P:=P) hl (by rw[hrec];simp);rw[hrec]at this;exact this,hstop _ c pre _ (Nat.le_refl _) hSp ((hIx c).putObj _ hi (by omega) hl rfl) ((World.putObj_heap_other (by omega)).trans hk)⟩
end Go.Proofs.YtodaapcohdpenaaGreat
namespace Go.Proofs.YtodaapcohdpenaaGreat
open Go.RowKit Go.Shelf
attribute [local go_sem] Oper.semAt_some
def al0 (B:Nat) (X Y:World):Prop:=∃v,Y=X.setCell ⟨B,0,none⟩ v
def TW (B:Nat) (X Y:World):Prop:=Y.heap[B]? =X.heap[B]?
def ZE (W:World) (B:Nat):Nat:=((W.cell? ⟨B,0,none⟩).map fun v=>(intOf v).toNat).getD 0
theorem aep {W:World} {B:Nat} {t:TypeId} {k:Nat} (h:Boxed W B t (.int .i64 k)):ZE W B=k:=by
 unfold ZE;rw[h.cell];simp[intOf]
theorem TW.boxed {B:Nat} {t:TypeId} {v:Value} {X Y:World} (h:TW B X Y) (hb:Boxed X B t v):Boxed Y B t v:=Eq.trans h hb
theorem ah5 {m:Nat} (h:m<256):((UInt8.ofNat m).toNat:Int)=(m:Int):=by rw[Sb h]
theorem amH (n k Bn:Nat) (w:World) (hb:Boxed w Bn 3 (.int .i64 k)) (hk:(k:Int)≤9007199254740992):
  Zb n Tryz.prog 196 #[.pointer (some ⟨Bn,0,none⟩)] (fun x:UInt8=>#[Value.int .u8 x.toNat]) (al0 Bn) (TW Bn) (fun xs=>xs=vb k) (fun _=>True) (fun pre _=>pre.length<(vb k).length) w:=by
 intro l J Jx W hW hJ _ hY h0;have hb0:Boxed W Bn 3 (.int .i64 k):=(hW.block Bn hb.lt).trans hb;refine callsIn_of_wp Tryz.func196 rfl trivial ?_ rfl;simp only[Tryz.ntmps196,List.size_toArray,List.length_cons,List.length_nil,Nat.reduceAdd,Nat.reduceSub,Array.replicate_succ,Array.replicate_zero,List.push_toArray,List.append_toArray,List.nil_append,List.cons_append]
 gi_wp2
 gi_loopw [3] (fun _ wr=>∃(pre:List UInt8) (m:Nat),(m:Int)≤9007199254740992∧pre++vb m=vb k∧Boxed wr Bn 3 (.int .i64 m)∧J pre wr) (fun _ wr=>ZE wr Bn)
 case atStart=>exact⟨[],k,hk,rfl,hb0,h0⟩
 case round=>
  obtain⟨pre,m,hm,hv,FM,QF⟩:=hrel;have hc:=FM.cell;have hz:=FM.frozen;have hlen:pre.length<(vb k).length:=by
   have:=congrArg List.length hv;rw[List.length_append]at this;have:=Lg m;omega
  by_cases hlt:m<128
  ·obtain⟨fn,tmps,assign,body,hy,hR⟩:=hY pre (UInt8.ofNat m) wr QF hlen;rw[ah5 (by omega)]at hy;have HV:=Lib.hid hv;clear hv;have HN:=Lib.hid hlen;clear hlen
   gi_wp2
   refine⟨fun h=>(by cases h),hR.mono ?_⟩;rintro e W3 (⟨rfl,hJ3,hk3⟩|⟨rfl,hJx3⟩)
   ·gi_wp2
    go_end0
    exact⟨⟨_,rfl⟩,.inl ⟨pre++[UInt8.ofNat m],by rw[←HV.out,Gb hlt],hJ3⟩⟩
   ·gi_wp2
    go_end0
    exact⟨⟨_,rfl⟩,.inr ⟨pre++[UInt8.ofNat m],trivial,hJx3⟩⟩
  ·obtain⟨fn,tmps,assign,body,hy,hR⟩:=hY pre (UInt8.ofNat (m % 128+128)) wr QF hlen;have eu:((UInt8.ofNat (m % 128+128)).toNat:Int)=(m:Int) % 128+128:=by rw[ah5 (by omega)];omega
   rw[eu]at hy;clear eu;have HV:=Lib.hid hv;clear hv;have HN:=Lib.hid hlen;clear hlen
   gi_wp2
   refine⟨fun h=>(by cases h),hR.mono ?_⟩;rintro e W3 (⟨rfl,hJ3,hk3⟩|⟨rfl,hJx3⟩)
   ·have hb3:=hk3.boxed FM;have hc3:=hb3.cell;have hz3:=hb3.frozen;have hs:Boxed (W3.setCell ⟨Bn,0,none⟩ (.int .i64 ((m:Int) / 128))) Bn 3 (.int .i64 ((m / 128:Nat):Int)):=hb3.set _;have HS:=Lib.hid hs;clear hs
    gi_wp2
    go_roundw
    case rel=>exact⟨pre++[UInt8.ofNat (m % 128+128)],m / 128,by omega,by rw[←HV.out,N8 hlt];simp,HS.out,hJ _ _ _ hJ3 ⟨_,rfl⟩⟩
    case measure=>rw[aep FM,aep HS.out];omega
   ·gi_wp2
    refine bodyPost_ret (results_none rfl _ _ _) rfl ?_;exact⟨⟨_,rfl⟩,.inr ⟨_,trivial,hJx3⟩⟩
theorem amI (n:Nat) (x:Int) (w:World):
  CallsIn Fence.wide n Tryz.prog 180 #[.int .i64 x] w fun e w'=>e= .returned (.func (.func 196) #[] #[.pointer (some ⟨w.heap.size,0,none⟩)])∧w'=w.alloc (.cells #[.int .i64 x] 3):=by
 refine callsIn_of_wp Tryz.func180 rfl trivial ?_ rfl;simp only[Tryz.ntmps180,List.size_toArray,List.length_cons,List.length_nil,Nat.reduceAdd,Nat.reduceSub,Array.replicate_succ,Array.replicate_zero,List.push_toArray,List.append_toArray,List.nil_append,List.cons_append]
 gi_wp2
 go_ret;exact⟨rfl,rfl⟩
theorem aaZ:(Tryz.prog.info? 5).map (fun i=>(i.zero,i.size,i.bytes))=some (some (.int .u8 0),1,1):=by kernel_rfl
theorem anH {W:World} {base:Nat} {v:Value} {l:List UInt8} (h:W.ownsRow base 5 1 v l.length (l.map fun c=>Value.int .u8 c.toNat)):
  (convert 126 9 v).run Tryz.prog W= .ok (.string (bs l)) W:=by
 rcases h.2 with⟨rfl,h0⟩|⟨g,cap,cur,rfl,_,hgb,hnc,hcm,hcs,htake⟩
 ·have:l=[]:=List.eq_nil_of_length_eq_zero (by simpa using h0);subst this;rw[run_convert_bytes_string _ _ _ 5 _ _ _ Tryz.underlying126 Tryz.underlying5 Tryz.underlying9];simp[Conv.bytesToString];rfl
 ·exact run_convert_bytes_back W _ _ 5 ⟨g,0,none⟩ cap l Tryz.underlying126 Tryz.underlying5 Tryz.underlying9 (fun j hj=>h.cells (g:=g) rfl j _ (by simp[hj]))
theorem Vz (n:Int) (h1:0≤n) (h2:n≤9007199254740992) (w:World):
  Calls Tryz.prog 144 #[.int .i64 n] w fun e w'=>e= .returned (.tuple #[.string (bs (vb n.toNat)),.int .i64 0])∧Below w.heap.size w w':=by
 obtain⟨k,rfl⟩:∃k:Nat,n=(k:Int):=⟨n.toNat,by omega⟩;clear h1;obtain⟨i0,hi,hz0,hz1,hz2⟩:=info_parts aaZ;refine(callsIn_wide (n:=9)).1 ?_;refine callsIn_of_wp_marks Tryz.func144 rfl trivial ?_ rfl;simp only[Tryz.ntmps144,List.size_toArray,List.length_cons,List.length_nil,Nat.reduceAdd,Nat.reduceSub,Array.replicate_succ,Array.replicate_zero,List.push_toArray,List.append_toArray,List.nil_append,List.cons_append]
 gi_wp2_with (first|(gi_at_make;refine wpListIn_make_own _ rfl _ _ 126 rfl w.heap.size 5 i0 (.int .u8 0) 1 Tryz.underlying126 hi hz0 hz1 _ _ _ 8 rfl rfl rfl (by rw[hz2];omega) (by decide) (Nat.le_refl _) ?_;intro w1 hown hgrow)|(refine⟨trivial,?_⟩;gi_at_call 180;refine(amI _ _ _).mono ?_;rintro e w' ⟨rfl,rfl⟩))
 have hlt1:w.heap.size<w1.heap.size:=(hown.lt _ rfl).2;have hB1:Below w.heap.size w w1:=(Below.refl _ _).grown hgrow (Nat.le_refl _) (fun _ h=>by cases h);obtain⟨W0,hW0⟩:∃W0,(w1.alloc (.cells #[.slice (some ⟨w.heap.size,0,none⟩) 0 8] 126)).alloc (.cells #[.int .i64 k] 3)=W0:=⟨_,rfl⟩;have bB:Boxed W0 w1.heap.size 126 (.slice (some ⟨w.heap.size,0,none⟩) 0 8):=by rw[←hW0];exact(Boxed.new w1 _ _).alloc _
 have bN:Boxed W0 (w1.heap.size+1) 3 (.int .i64 k):=by
  rw[←hW0];have:=Boxed.new (w1.alloc (.cells #[.slice (some ⟨w.heap.size,0,none⟩) 0 8] 126)) 3 (.int .i64 k)
  rwa [World.size_alloc]at this
 have apO:W0.ownsRow w.heap.size 5 1 (.slice (some ⟨w.heap.size,0,none⟩) 0 8) 0 []:=by rw[←hW0];exact(hown.alloc _).alloc _
 have hB0:Below w.heap.size w W0:=by rw[←hW0];exact(hB1.alloc (by omega) _).alloc (by simp;omega) _
 have hsz:W0.heap.size=w1.heap.size+2:=by rw[←hW0];simp
 rw[hW0];refine ag2 (by decide) (gf:=196) (lb:=#[.pointer (some ⟨w1.heap.size+1,0,none⟩)]) rfl (enters_of Tryz.func196 (by kernel_rfl) rfl)
  (amH _ k (w1.heap.size+1) W0 bN h2) ?hKt ?hKb ?hSt (fun _=>rfl)
  (fun pre W=>(∃v,Boxed W w1.heap.size 126 v∧W.ownsRow w.heap.size 5 1 v pre.length (pre.map fun c=>Value.int .u8 c.toNat))∧(∃u,Boxed W (w1.heap.size+1) 3 u)∧Below w.heap.size w W)
  (fun _ _ _=>False) ?hI (fun _ _ _ _ _ h=>h.elim) ?hIs (fun _ _ _ _ h=>h.elim) ⟨⟨_,bB,apO⟩,⟨_,bN⟩,hB0⟩
  (fun x=>{ tmps:=#[.int .i64 k,undef,.string { data:=#[] },.int .i64 0,.pointer (some ⟨w1.heap.size,0,none⟩),.int .u8 x.toNat,.int .i64 k,.bool (decide ((k:Int)<0)),.bool (decide ((k:Int)<0)),.int .i64 k,.bool (decide (9007199254740992<(k:Int))),.bool (decide ((k:Int)<0)||decide (9007199254740992<(k:Int))),.slice (some ⟨w.heap.size,0,none⟩) 0 8,.int .i64 k,.func (.func 196) #[] #[.pointer (some ⟨w1.heap.size+1,0,none⟩)],.int .u8 x.toNat,undef,undef,undef,undef,undef,undef],defers:=[] }) ?assign ?body ?done ?stop
 case assign=>
  intro l x W K hK
  gi_wp2
  exact hK
 case hKt=>intro A B C h1 h2;exact Eq.trans h2 h1
 case hKb=>intro W l o hl;exact World.putObj_heap_other (by omega)
 case hSt=>rintro A B ⟨v,rfl⟩;exact(KeepsOthers.setCell _ _ _).from _
 case hI=>
  have h:=Own.from (holdsRow_own w.heap.size w1.heap.size 126 5 1 (fun pre:List UInt8=>pre.length) (fun pre=>pre.map fun c=>Value.int .u8 c.toNat) (fun _ _=>True)) W0.heap.size;refine OwnFrom.and ?_ (OwnFrom.and ?_ (ownFrom_below (Nat.le_refl _) (by omega)))
  ·rintro s A B row ⟨v,h1,h2⟩ hg hr;obtain⟨v',h1',h2',_⟩:=h s A B row ⟨v,h1,h2,trivial⟩ hg hr;exact⟨v',h1',h2'⟩
  ·rintro s A B row ⟨u,hu⟩ hg hr;exact⟨u,(Own.from (boxed_own (w1.heap.size+1) 3 (fun _:Unit=>u)) _) () A B row hu hg hr⟩
 case hIs=>
  rintro s A B ⟨⟨v,hv,hrow⟩,⟨u,hu⟩,hB⟩ ⟨x,rfl⟩;exact⟨⟨v,hv.other (by omega) x,hrow.kept (grownBy_setCell' A _ x) (.inr fun e=>hu.not_row (by decide) hrow e.symm)⟩,⟨x,hu.set x⟩,hB.setCell (p:=⟨w1.heap.size+1,0,none⟩) (by simp;omega) _⟩
 case body=>
  rintro l pre x W ⟨⟨v,hv,hrow⟩,⟨u,hu⟩,hB⟩ hlt;have h8:(vb k).length≤8:=BN (by omega);have hc:=hv.cell;have HL:=Lib.hid hlt;clear hlt;have H8:=Lib.hid h8;clear h8
  gi_wp2_with (gi_at_builtin;go_loud (refine wpListIn_append_own _ rfl _ _ 126 rfl w.heap.size 5 i0 (.int .u8 0) 1 1 Tryz.underlying126 hi hz0 hz1 hz2 rfl (by decide) _ _ _ rfl (hrow.alloc _) ⟨W.heap.size,0,none⟩ 1 1 [.int .u8 x.toNat] rfl rfl (cell_one_new _ _ _) (by simp[Value.oneCell']) (by have:=HL.out;have:=H8.out;unfold maxLen;omega) (by have:=HL.out;have:=H8.out;omega) (by have:=hB.size;simp;omega) ?_;intro v' w2 hown' hgrow' _;obtain⟨g',cap',rfl⟩:=ownsRow_succ hown';obtain⟨hv1,hv2,hr2,hk2,hb2⟩:=hv.appended (by decide) hrow hB.size (by omega) hown' hgrow';have hc1:=hv1.cell;have hf1:=hv1.frozen))
  have hu1:Boxed w2 (w1.heap.size+1) 3 u:=(hu.alloc _).kept hgrow' (hu.not_row (by decide) hrow);have hu2:Boxed (w2.setCell ⟨w1.heap.size,0,none⟩ (.slice (some ⟨g',0,none⟩) (pre.length+1) cap')) (w1.heap.size+1) 3 u:=hu1.other (by omega) _;exact⟨hk2.from _,Eq.trans hu2 (Eq.symm hu),⟨_,hv2,by simpa using hr2⟩,⟨_,hu2⟩,hB.trans hb2⟩
 case done=>
  rintro D ys W hD rfl ⟨⟨v,hv,hrow⟩,⟨u,hu⟩,hB⟩ hK;have hc:=hv.cell;have hcv:=anH hrow
  gi_wp2
  refine⟨by simp,.inl ⟨_,_,rfl,run_takeDeferred hK,?_⟩⟩;exact⟨_,results_tmp2 rfl _ _ _,by simp,hB.trans (belowK_b (w:=w) (Nat.le_refl _) W D _ _ (by omega) hK rfl rfl)⟩
 case stop=>
  rintro D c pre W _ _ h _;exact h.elim
end Go.Proofs.YtodaapcohdpenaaGreat
namespace Go.Proofs.YtodaapcohdpenaaGreat
open Go.RowKit Go.Shelf
attribute [local go_sem] Oper.semAt_some
theorem agw (l:List UInt8) (j:Nat) (h:j<lead l):¬(l[j]?.getD 0).toNat<128:=by
 induction l generalizing j with
 |nil=>simp[lead]at h
 |cons b t ih=>
  unfold lead at h;split at h
  ·omega
  ·cases j with
   |zero=>rename_i hb;simpa using hb
   |succ j=>simpa using ih j (by omega)
theorem agv (l:List UInt8) (h:lead l<l.length):(l[lead l]?.getD 0).toNat<128:=by
 induction l with
 |nil=>simp at h
 |cons b t ih=>
  unfold lead at h ⊢;split
  ·simpa using ‹_›
  ·rename_i hb;rw[if_neg hb]at h;simpa using ih (by simpa using h)
def jX (s:ByteArray):Nat:=min (lead s.data.toList+1) (min s.size 8)
def nC (s:ByteArray) (j:Nat):UInt8:=s.data.toList[j]?.getD 0
theorem ZG (s:ByteArray) (j:Nat) (h:j<s.size):nC s j=s[j]:=by
 unfold nC;have h':j<s.data.toList.length:=by simpa using h
 rw[List.getElem?_eq_getElem h'];rfl
theorem amC (n Bn:Nat) (s:ByteArray) (w:World) (hb:Boxed w Bn 9 (.string s)) (hs:s.size≤maxLen):
  Zb n Tryz.prog 209 #[.pointer (some ⟨Bn,0,none⟩)] (fun x:Nat×UInt8=>#[Value.int .i64 x.1,Value.int .u8 x.2.toNat]) (fun _ _=>False) (TW Bn) (fun xs=>xs.length=jX s) (fun _=>True)
   (fun pre x=>pre.length<jX s∧x=(pre.length,nC s pre.length)) w:=by
 intro l J Jx W hW _ _ hY h0;unfold maxLen at hs;have hb0:Boxed W Bn 9 (.string s):=(hW.block Bn hb.lt).trans hb;have hc0:=hb0.cell;refine callsIn_of_wp Tryz.func209 rfl trivial ?_ rfl;simp only[Tryz.ntmps209,List.size_toArray,List.length_cons,List.length_nil,Nat.reduceAdd,Nat.reduceSub,Array.replicate_succ,Array.replicate_zero,List.push_toArray,List.append_toArray,List.nil_append,List.cons_append]
 by_cases h8:s.size≤8
 all_goals
  gi_wp2
  gi_loopw [7] (fun i wr=>∃pre:List (Nat×UInt8),i= .int .i64 pre.length∧pre.length≤lead s.data.toList∧pre.length≤min s.size 8∧Boxed wr Bn 9 (.string s)∧J pre wr) (fun i _=>8-(intOf i).toNat)
  case atStart=>exact⟨[],rfl,Nat.zero_le _,Nat.zero_le _,hb0,h0⟩
  case round=>
   obtain⟨pre,rfl,hld,hmn,FM,QF⟩:=hrel;have hc:=FM.cell
   by_cases hlt:pre.length<min s.size 8
   ·have hsz:pre.length<s.size:=by omega
    have hx8:pre.length<8:=by omega
    obtain⟨fn,tmps,assign,body,hy,hR⟩:=hY pre (pre.length,nC s pre.length) wr QF ⟨by unfold jX;omega,rfl⟩;rw[ZG s _ hsz]at hR hy;dsimp only at hy;have HL:=Lib.hid hld;clear hld;have HM:=Lib.hid hmn;clear hmn;have HT:=Lib.hid hlt;clear hlt
    gi_wp2
    refine⟨fun h=>(by cases h),hR.mono ?_⟩;rintro e W3 (⟨rfl,hJ3,hk3⟩|⟨rfl,hJx3⟩)
    ·have hb3:=hk3.boxed FM;have hc3:=hb3.cell
     by_cases hbt:s[pre.length].toNat<128
     ·have HE:Hid (lead s.data.toList=pre.length):=by
       have h1:=HL.out;have h2:=agw s.data.toList pre.length;have h3:=ZG s _ hsz;unfold nC at h3;rw[h3]at h2;show lead s.data.toList=pre.length;omega
      gi_wp2
      refine bodyPost_ret (results_none rfl _ _ _) rfl ?_;exact⟨⟨_,rfl⟩,.inl ⟨_,by have:=HE.out;have:=HT.out;unfold jX;simp;omega,hJ3⟩⟩
     ·have HE:Hid (pre.length+1≤lead s.data.toList):=by
       have h1:=HL.out;have h2:=agv s.data.toList;have h3:=ZG s _ hsz;unfold nC at h3;show pre.length+1≤lead s.data.toList;rcases Nat.lt_or_ge pre.length (lead s.data.toList)with h|h
       ·exact h
       ·exfalso;have e:lead s.data.toList=pre.length:=by omega
        rw[e,h3]at h2;exact hbt (h2 (by simpa using hsz))
      gi_wp2
      go_roundw
      case rel=>exact⟨_,by simp,by have:=HE.out;simp;omega,by have:=HT.out;simp;omega,hb3,hJ3⟩
      case measure=>simp[intOf];omega
    ·gi_wp2
     refine bodyPost_ret (results_none rfl _ _ _) rfl ?_;exact⟨⟨_,rfl⟩,.inr ⟨_,trivial,hJx3⟩⟩
   ·have hE:pre.length=min s.size 8:=by omega
    have HL:=Lib.hid hld;clear hld;have HM:=Lib.hid hmn;clear hmn;have hge:s.size≤pre.length∨8≤pre.length:=by omega
    have HE:=Lib.hid hE;clear hE;clear hlt
    first|(have hge':s.size≤pre.length:=by omega);clear hge;gi_wp2|(have hge':8≤pre.length:=by omega);clear hge;gi_wp2
    go_end0
    exact⟨⟨_,rfl⟩,.inl ⟨_,by have:=HE.out;have:=HL.out;unfold jX;omega,QF⟩⟩
def yV (s:ByteArray) (j:Nat):Nat:=if j=0 then 128 else(nC s (j-1)).toNat
def yP (s:ByteArray) (j:Nat):Nat:=(nC s j).toNat % 128*128 ^ j
theorem atA (s:ByteArray) (j:Nat) (hj:j<8) (W:World):
  (Op.shift .shl .i64 (IntKind.i64.wrap (((nC s j).toNat:Int).tmod 128)) .i64 (IntKind.i64.wrap (7*(j:Int)))).run Tryz.prog W= .ok (.int .i64 (yP s j)) W:=by
 have hb:=(nC s j).toNat_lt;unfold yP;generalize(nC s j).toNat=b at*;have e1:IntKind.i64.wrap (7*(j:Int))=7*(j:Int):=IntWalk.i64_in _ (by omega);have e2:((b:Int)).tmod 128=((b % 128:Nat):Int):=by rw[Int.tmod_eq_emod_of_nonneg (by omega)];omega
 have e3:IntKind.i64.wrap ((b % 128:Nat):Int)=((b % 128:Nat):Int):=IntWalk.i64_in _ (by omega);rw[e1,e2,e3,shift_shl_any _ _ _ _ (by omega)];have e4:((b % 128:Nat):Int)*2 ^ min (7*(j:Int)).toNat IntKind.i64.bits=((b % 128*128 ^ j:Nat):Int):=by
  have:min (7*(j:Int)).toNat IntKind.i64.bits=7*j:=by simp[IntKind.bits];omega
  rw[this,show((2:Int) ^ (7*j))=((2 ^ (7*j):Nat):Int) by simp,Nat.pow_mul];simp
 have e5:b % 128*128 ^ j<72057594037927936:=by
  have h1:b % 128*128 ^ j<128*128 ^ j:=Nat.mul_lt_mul_of_pos_right (by omega) (Nat.pow_pos (by omega));have h2:128 ^ (j+1)≤128 ^ 8:=Nat.pow_le_pow_right (by omega) (by omega);rw[Nat.pow_succ]at h2;have h3:(128:Nat) ^ 8=72057594037927936:=by decide
  omega
 rw[e4,IntWalk.i64_in _ (by omega)];rfl
theorem auQ (l:List UInt8):val l<128 ^ l.length:=by
 induction l with
 |nil=>simp[val]
 |cons b t ih=>simp only[val,List.length_cons,Nat.pow_succ];omega
theorem auS (l:List UInt8) (b:UInt8):val (l++[b])=val l+b.toNat % 128*128 ^ l.length:=by
 induction l with
 |nil=>simp[val]
 |cons c t ih=>simp only[List.cons_append,val,ih,List.length_cons,Nat.pow_succ,Nat.mul_add];rw[Nat.add_assoc];congr 2;rw[Nat.mul_left_comm,Nat.mul_comm 128]
theorem ah_ (s:ByteArray) (j:Nat) (h:j<s.size):val (s.data.toList.take (j+1))=val (s.data.toList.take j)+yP s j:=by
 have h':j<s.data.toList.length:=by simpa using h
 rw[List.take_succ_eq_append_getElem h',auS,List.length_take,Nat.min_eq_left (by omega)];unfold yP nC;rw[List.getElem?_eq_getElem h'];rfl
theorem ab4 (s:ByteArray) (j:Nat) (h:j≤s.size):val (s.data.toList.take j)<128 ^ j:=by
 have:=auQ (s.data.toList.take j)
 rwa [List.length_take,Nat.min_eq_left (by simpa using h)]at this
theorem arj (s:ByteArray) (j:Nat) (h:j<s.size) (h8:j<8):bits .or .i64 (val (s.data.toList.take j)) (yP s j)=(val (s.data.toList.take (j+1)):Int):=by
 rw[ah_ s j h];have h1:=ab4 s j (by omega);have h2:yP s j=2 ^ (7*j)*((nC s j).toNat % 128):=by unfold yP;rw[Nat.pow_mul,Nat.mul_comm]
 have h3:=Nat.two_pow_add_eq_or_of_lt (i:=7*j) (b:=val (s.data.toList.take j)) (by rw[Nat.pow_mul];exact h1) ((nC s j).toNat % 128);have h4:128 ^ (j+1)≤128 ^ 8:=Nat.pow_le_pow_right (by omega) (by omega);have h5:=ab4 s (j+1) (by omega);rw[ah_ s j h]at h5;have h6:(128:Nat) ^ 8=72057594037927936:=by decide
 have h7:val (s.data.toList.take j)|||yP s j=val (s.data.toList.take j)+yP s j:=by rw[Nat.or_comm,h2,←h3,Nat.add_comm]
 generalize val (s.data.toList.take j)=a at*;generalize yP s j=b at*;show IntKind.i64.wrap ((BitVec.ofInt 64 (a:Int)|||BitVec.ofInt 64 (b:Int)).toNat:Int)=_;rw[BitVec.toNat_or,ofInt_u64 a (by omega),ofInt_u64 b (by omega),h7,IntWalk.i64_in _ (by omega)]
theorem aue (s:ByteArray):
    (lead s.data.toList<min s.size 8∧jX s=lead s.data.toList+1∧yV s (jX s)=(s.data.toList[lead s.data.toList]?.getD 0).toNat∧yV s (jX s)<128)∨
    (¬lead s.data.toList<min s.size 8∧jX s=min s.size 8∧128≤yV s (jX s)):=by
  by_cases h:lead s.data.toList<min s.size 8
  · have e:jX s=lead s.data.toList+1:=by unfold jX;omega
    refine .inl ⟨h,e,?_,?_⟩
    · rw[e];unfold yV;rw[if_neg (by omega)];rfl
    · rw[e];unfold yV;rw[if_neg (by omega)];exact agv _ (by
      have:s.data.toList.length=s.size:=by simp
      omega)
  · have e:jX s=min s.size 8:=by unfold jX;omega
    refine .inr ⟨h,e,?_⟩;rw[e];unfold yV;split
    · omega
    · have:=agw s.data.toList (min s.size 8-1) (by omega)
      unfold nC;omega
theorem amD (n:Nat) (s:ByteArray) (w:World):
  CallsIn Fence.wide n Tryz.prog 203 #[.string s] w fun e w'=>e= .returned (.func (.func 209) #[] #[.pointer (some ⟨w.heap.size,0,none⟩)])∧w'=w.alloc (.cells #[.string s] 9):=by
 refine callsIn_of_wp Tryz.func203 rfl trivial ?_ rfl;simp only[Tryz.ntmps203,List.size_toArray,List.length_cons,List.length_nil,Nat.reduceAdd,Nat.reduceSub,Array.replicate_succ,Array.replicate_zero,List.push_toArray,List.append_toArray,List.nil_append,List.cons_append]
 gi_wp2
 go_ret;exact⟨rfl,rfl⟩
theorem R_ (s:ByteArray) (hs:s.size≤maxLen) (w:World):
    Calls Tryz.prog 187 #[.string s] w fun e w'=>e= .returned (.tuple #[.int .i64 (bY s.data.toList).1,.int .i64 (bY s.data.toList).2.1,.int .i64 (bY s.data.toList).2.2])∧Below w.heap.size w w':=by
  refine(callsIn_wide (n:=9)).1 ?_;refine callsIn_of_wp_marks Tryz.func187 rfl trivial ?_ rfl;simp only[Tryz.ntmps187,List.size_toArray,List.length_cons,List.length_nil,Nat.reduceAdd,Nat.reduceSub,Array.replicate_succ,Array.replicate_zero,List.push_toArray,List.append_toArray,List.nil_append,List.cons_append]
  gi_wp2_with (refine⟨trivial,?_⟩;gi_at_call 203;refine(amD _ _ _).mono ?_;rintro e w' ⟨rfl,rfl⟩)
  obtain⟨B,hB⟩:∃B,w.heap.size=B:=⟨_,rfl⟩;rw[hB];obtain⟨W0,hW0⟩:∃W0,((((w.alloc (.cells #[.int .i64 0] 3)).alloc (.cells #[.int .i64 0] 3)).alloc (.cells #[.int .u8 128] 5)).alloc (.cells #[.string s] 9))=W0:=⟨_,rfl⟩;have hsz:W0.heap.size=B+4:=by rw[←hW0];simp;omega
  have b1:Boxed W0 B 3 (.int .i64 0):=by rw[←hW0,←hB];exact(((Boxed.new w _ _).alloc _).alloc _).alloc _
  have b2:Boxed W0 (B+1) 3 (.int .i64 0):=by rw[←hW0,←hB];have:=(((Boxed.new (w.alloc (.cells #[.int .i64 0] 3)) 3 (.int .i64 0)).alloc (.cells #[.int .u8 128] 5)).alloc (.cells #[.string s] 9));rwa [World.size_alloc]at this
  have b3:Boxed W0 (B+2) 5 (.int .u8 128):=by rw[←hW0,←hB];have:=((Boxed.new ((w.alloc (.cells #[.int .i64 0] 3)).alloc (.cells #[.int .i64 0] 3)) 5 (.int .u8 128)).alloc (.cells #[.string s] 9));rwa [World.size_alloc,World.size_alloc]at this
  have b4:Boxed W0 (B+3) 9 (.string s):=by rw[←hW0,←hB];have:=(Boxed.new (((w.alloc (.cells #[.int .i64 0] 3)).alloc (.cells #[.int .i64 0] 3)).alloc (.cells #[.int .u8 128] 5)) 9 (.string s));rwa [World.size_alloc,World.size_alloc,World.size_alloc]at this
  have KI:Below B w W0:=by rw[←hW0,←hB];exact((((Below.refl _ _).alloc (Nat.le_refl _) _).alloc (by simp) _).alloc (by simp;omega) _).alloc (by simp;omega) _
  rw[hW0];have b4':Boxed W0 (B+1+1+1) 9 (.string s):=b4;refine ag2 (by decide) (gf:=209) (lb:=#[.pointer (some ⟨B+1+1+1,0,none⟩)]) rfl (enters_of Tryz.func209 (by kernel_rfl) rfl)
    (amC _ (B+1+1+1) s W0 b4' hs) ?hKt ?hKb ?hSt (fun _=>rfl)
    (fun pre W=>Boxed W B 3 (.int .i64 (val (s.data.toList.take pre.length)))∧Boxed W (B+1+1+1) 9 (.string s)∧Boxed W (B+1) 3 (.int .i64 pre.length)∧Boxed W (B+1+1) 5 (.int .u8 (yV s pre.length))∧Below B w W)
    (fun _ _ _=>False) ?hI (fun _ _ _ _ _ h=>h.elim) ?hIs (fun _ _ _ _ h=>h.elim) ⟨b1,b4,b2,b3,KI⟩
    (fun x=>{ tmps:=#[Value.string s,undef,Value.int IntKind.i64 0,Value.int IntKind.i64 0,Value.int IntKind.i64 0,
          Value.pointer (some { block:=B,off:=0 }),
          Value.pointer (some { block:=B+1,off:=0 }),
          Value.pointer (some { block:=B+1+1,off:=0 }),.int .i64 x.1,.int .u8 x.2.toNat,Value.string s,
          Value.func (Fn.func 209) #[] #[Value.pointer (some { block:=B+1+1+1,off:=0 })],.int .i64 x.1,.int .u8 x.2.toNat,
          undef,undef,undef,undef,undef,undef,undef,undef,undef,undef,undef,undef,
          undef,undef,undef,undef,undef,undef,undef,undef,undef,undef,undef,undef,undef,undef,undef,
          undef,undef,undef,undef,undef,undef],defers:=[] }) ?assign ?body ?done ?stop
  case assign=>
    intro l x W K hK
    gi_wp2
    exact hK
  case hKt=>intro A B C h1 h2;exact Eq.trans h2 h1
  case hKb=>intro W l o hl;exact World.putObj_heap_other (by omega)
  case hSt=>intro A B h;exact h.elim
  case hIs=>intro s A B _ h;exact h.elim
  case hI=>
    refine OwnFrom.and (Own.from (boxed_own B 3 _) _) (OwnFrom.and (Own.from (boxed_own (B+1+1+1) 9 (fun _=>Value.string s)) _) (OwnFrom.and (Own.from (boxed_own (B+1) 3 _) _) (OwnFrom.and (Own.from (boxed_own (B+1+1) 5 _) _) (ownFrom_below (by omega) (by omega)))))
  case body=>
    rintro l pre x W ⟨h1,h4,h2,h3,hBw⟩ ⟨hlt,rfl⟩;have c1:=h1.cell;have c2:=h2.cell;have c3:=h3.cell;have f1:=h1.frozen;have f2:=h2.frozen;have f3:=h3.frozen;have hj8:pre.length<8:=by unfold jX at hlt;omega
    have HT:=Lib.hid hlt;clear hlt;dsimp only;have hsh:∀W':World,(Op.shift .shl .i64 (IntKind.i64.wrap (((nC s pre.length).toNat:Int).tmod 128)) .i64 (IntKind.i64.wrap (7*(pre.length:Int)))).run Tryz.prog W'= .ok (.int .i64 (yP s pre.length)) W':=fun W'=>atA s _ hj8 W'
    gi_wp2
    refine wpIn_mono (Q:=fun e a' W'=>e=Exit.normal∧a'={ tmps:=#[Value.string s,undef,Value.int IntKind.i64 0,Value.int IntKind.i64 0,Value.int IntKind.i64 0,
          Value.pointer (some { block:=B,off:=0 }),Value.pointer (some { block:=B+1,off:=0 }),
          Value.pointer (some { block:=B+1+1,off:=0 }),Value.int IntKind.i64 pre.length,
          Value.int IntKind.u8 (nC s pre.length).toNat,Value.string s,
          Value.func (Fn.func 209) #[] #[Value.pointer (some { block:=B+1+1+1,off:=0 })],
          Value.int IntKind.i64 pre.length,Value.int IntKind.u8 (nC s pre.length).toNat,
          Value.int IntKind.i64 (val (List.take pre.length s.data.toList)),
          Value.int IntKind.u8 (nC s pre.length).toNat,
          Value.int IntKind.u8 (((nC s pre.length).toNat:Int).tmod 128),
          Value.int IntKind.i64 (IntKind.i64.wrap (((nC s pre.length).toNat:Int).tmod 128)),
          Value.int IntKind.i64 pre.length,Value.int IntKind.i64 (IntKind.i64.wrap (7*(pre.length:Int))),
          Value.int IntKind.i64 (yP s pre.length),
          Value.int IntKind.i64
            (bits BinOp.or IntKind.i64 (val (List.take pre.length s.data.toList)) (yP s pre.length)),
          undef,undef,undef,undef,undef,undef,undef,undef,undef,undef,undef,undef,undef,undef,undef,
          undef,undef,undef,undef,undef,undef,undef,undef,undef,undef],defers:=[] }∧
        W'=(W.setCell { block:=B,off:=0 } (Value.int IntKind.i64 (bits BinOp.or IntKind.i64 (val (List.take pre.length s.data.toList)) (yP s pre.length)))).drew) ?_ ?_
    · gi_region
      all_goals exact⟨rfl,rfl,rfl⟩
    · rintro e a' W' ⟨rfl,rfl,rfl⟩
      have hlt:=HT.out;have hs1:pre.length<s.size:=by unfold jX at hlt;omega
      rw[arj s _ hs1 hj8]
      gi_wp2
      have g1:=((h1.set (.int .i64 (val (s.data.toList.take (pre.length+1))))).other (B':=B+1) (by omega) (.int .i64 ((pre.length:Int)+1))).other (B':=B+1+1) (by omega) (.int .u8 (nC s pre.length).toNat);have g2:=(((h2.other (B':=B) (by omega) (.int .i64 (val (s.data.toList.take (pre.length+1)))))).set (.int .i64 ((pre.length:Int)+1))).other (B':=B+1+1) (by omega) (.int .u8 (nC s pre.length).toNat);have g3:=(((h3.other (B':=B) (by omega) (.int .i64 (val (s.data.toList.take (pre.length+1)))))).other (B':=B+1) (by omega) (.int .i64 ((pre.length:Int)+1))).set (.int .u8 (nC s pre.length).toNat);have g4:=(((h4.other (B':=B) (by omega) (.int .i64 (val (s.data.toList.take (pre.length+1)))))).other (B':=B+1) (by omega) (.int .i64 ((pre.length:Int)+1))).other (B':=B+1+1) (by omega) (.int .u8 (nC s pre.length).toNat);refine⟨KeepsOthers.from ((((KeepsOthers.setCell _ _ _).trans (KeepsOthers.setCell _ _ _)).trans (KeepsOthers.setCell _ _ _)).trans (KeepsOthers.drew _)) _,Eq.trans g4 (Eq.symm h4),?_⟩;have el:(pre++[(pre.length,nC s pre.length)]).length=pre.length+1:=by simp
      dsimp only;rw[el];exact⟨g1,g4,g2,by unfold yV;rw[if_neg (by simp)];exact g3,(((hBw.setCell (p:=⟨B,0,none⟩) (Nat.le_refl _) _).setCell (p:=⟨B+1,0,none⟩) (by simp) _).setCell (p:=⟨B+1+1,0,none⟩) (by simp;omega) _).drew⟩
  case done=>
    rintro D xs W hD hxs ⟨h1,h4,h2,h3,hBw⟩ hK;rw[hxs]at h1 h2 h3;have c1:=h1.cell;have c2:=h2.cell;have c3:=h3.cell;clear h1 h2 h3 h4;have Em:Below B w (W.putObj D (.deferred none)):=by exact hBw.trans (belowK_b (w:=W0) (by omega) W D _ _ hD hK rfl rfl)
    have hBg:Below B w (W.drew.putObj D (.deferred none)):=by exact hBw.drew.trans (belowK_b (w:=W0) (by omega) W.drew D _ _ hD hK rfl rfl)
    have hV:=ab4 s (jX s) (by unfold jX;omega);have hC:jX s≤8:=by unfold jX;omega
    have hpw:128 ^ jX s≤128 ^ 8:=Nat.pow_le_pow_right (by omega) hC;have Qw:(128:Nat) ^ 8=72057594037927936:=by decide
    have hV2:(val (s.data.toList.take (jX s)):Int)≤72057594037927936:=by omega
    have hsl:s.data.toList.length=s.size:=by simp
    have hL2:yV s (jX s)<256:=by unfold yV;split;omega;exact(nC s _).toNat_lt
    clear hV hpw Qw;have hK':W.drew.heap[D]? =some (.deferred (some [])):=hK;rcases aue s with⟨t1,t2,t3,t4⟩|⟨t1,t2,t3⟩
    · have T1:=Lib.hid t1;clear t1
      have T2:=Lib.hid t2;clear t2;have T3:=Lib.hid t3;clear t3;have HS:=Lib.hid hsl;clear hsl
      by_cases z:yV s (jX s)=0
      · by_cases o:1<jX s
        · have hspec:Hid (bY s.data.toList=(0,0,11)):=by
            have:=T1.out;have:=T2.out;have:=T3.out;have:=HS.out;show bY s.data.toList=(0,0,11);unfold bY;rw[if_pos (by omega),if_pos (.inr ⟨by omega,by omega⟩)]
          have z':((yV s (jX s):Int)==0)=true:=by simp[z]
          have Z:=Lib.hid z;clear z
          gi_wp2
          refine⟨by simp,.inl ⟨_,_,rfl,run_takeDeferred hK,?_⟩⟩;exact⟨_,results_tmp3 rfl _ _ _,by rw[hspec.out];rfl,(by first|exact Em|(rw[hB];exact Em))⟩
        · have z':((yV s (jX s):Int)==0)=true:=by simp[z]
          have Z:=Lib.hid z;clear z
          by_cases m:9007199254740992<(val (s.data.toList.take (jX s)):Int)
          · have hspec:Hid (bY s.data.toList=(0,0,11)):=by
              have h1:=T1.out;have h2:=T2.out;have h3:=T3.out;have h4:=HS.out;show bY s.data.toList=(0,0,11);unfold bY;rw[if_pos (by omega),if_pos (.inl (by rw[←h2];omega))]
            gi_wp2
            refine⟨by simp,.inl ⟨_,_,rfl,run_takeDeferred hK,?_⟩⟩;exact⟨_,results_tmp3 rfl _ _ _,by rw[hspec.out];rfl,(by first|exact Em|(rw[hB];exact Em))⟩
          · have hspec:Hid (bY s.data.toList=(val (s.data.toList.take (jX s)),jX s,0)):=by
              have h1:=T1.out;have h2:=T2.out;have h3:=T3.out;have h4:=HS.out;show bY s.data.toList=_;unfold bY;rw[if_pos (by omega),if_neg (by rw[←h2];omega),←h2]
            gi_wp2
            gi_region
            all_goals
              gi_wp2
              refine⟨by simp,.inl ⟨_,_,rfl,run_takeDeferred hK',?_⟩⟩;exact⟨_,results_tmp3 rfl _ _ _,by rw[hspec.out];rfl,(by first|exact hBg|(rw[hB];exact hBg))⟩
      · have z':((yV s (jX s):Int)==0)=false:=by simp;omega
        have Z:=Lib.hid z;clear z
        by_cases m:9007199254740992<(val (s.data.toList.take (jX s)):Int)
        · have hspec:Hid (bY s.data.toList=(0,0,11)):=by
            have h1:=T1.out;have h2:=T2.out;have h3:=T3.out;have h4:=HS.out;show bY s.data.toList=(0,0,11);unfold bY;rw[if_pos (by omega),if_pos (.inl (by rw[←h2];omega))]
          gi_wp2
          refine⟨by simp,.inl ⟨_,_,rfl,run_takeDeferred hK,?_⟩⟩;exact⟨_,results_tmp3 rfl _ _ _,by rw[hspec.out];rfl,(by first|exact Em|(rw[hB];exact Em))⟩
        · have hspec:Hid (bY s.data.toList=(val (s.data.toList.take (jX s)),jX s,0)):=by
            have h1:=T1.out;have h2:=T2.out;have h3:=T3.out;have h4:=HS.out;have h5:=Z.out;show bY s.data.toList=_;unfold bY;rw[if_pos (by omega),if_neg (by rw[←h2];omega),←h2]
          gi_wp2
          gi_region
          all_goals
            gi_wp2
            refine⟨by simp,.inl ⟨_,_,rfl,run_takeDeferred hK',?_⟩⟩;exact⟨_,results_tmp3 rfl _ _ _,by rw[hspec.out];rfl,(by first|exact hBg|(rw[hB];exact hBg))⟩
    · have T1:=Lib.hid t1;clear t1
      have T2:=Lib.hid t2;clear t2;have HS:=Lib.hid hsl;clear hsl
      by_cases o:s.size<8
      · have hspec:Hid (bY s.data.toList=(0,0,10)):=by
          have:=T1.out;have:=T2.out;have:=HS.out;show bY s.data.toList=(0,0,10);unfold bY;rw[if_neg (by omega),if_neg (by omega)]
        have ho:jX s<8:=by have:=T2.out;omega
        gi_wp2
        refine⟨by simp,.inl ⟨_,_,rfl,run_takeDeferred hK,?_⟩⟩;exact⟨_,results_tmp3 rfl _ _ _,by rw[hspec.out];rfl,(by first|exact Em|(rw[hB];exact Em))⟩
      · have hspec:Hid (bY s.data.toList=(0,0,11)):=by
          have:=T1.out;have:=T2.out;have:=HS.out;show bY s.data.toList=(0,0,11);unfold bY;rw[if_neg (by omega),if_pos (by omega)]
        have ho:8≤jX s:=by have:=T2.out;omega
        gi_wp2
        refine⟨by simp,.inl ⟨_,_,rfl,run_takeDeferred hK,?_⟩⟩;exact⟨_,results_tmp3 rfl _ _ _,by rw[hspec.out];rfl,(by first|exact Em|(rw[hB];exact Em))⟩
  case stop=>
    rintro D c pre W _ _ h _;exact h.elim
end Go.Proofs.YtodaapcohdpenaaGreat
namespace Go.Proofs.YtodaapcohdpenaaGreat
open Go.RowKit
theorem aA {a b c:World} (h:Below a.heap.size a b) (k:Below b.heap.size b c):Below a.heap.size a c:=h.trans (k.mono h.size)
theorem NP {T S:ByteArray} {k:Nat} (h:T.extract k T.size=S) (h1:k≤T.size) (W:World):
  (Instr.slice 9 (.string T) (some (.int .i64 k)) none none).run Tryz.prog W= .ok (.string S) W:=by
 rw[run_slice_string_from_if _ _ _ _ _ Tryz.underlying9,if_pos ⟨by omega,by omega⟩,←h];rfl
theorem ahN {T S:ByteArray} {k:Nat} (h:T.extract 0 k=S) (h1:k≤T.size) (W:World):
  (Instr.slice 9 (.string T) none (some (.int .i64 k)) none).run Tryz.prog W= .ok (.string S) W:=by
 rw[run_slice_string_to_if _ _ _ _ _ Tryz.underlying9,if_pos ⟨by omega,by omega⟩,←h];rfl
theorem Ky (l:List UInt8):(bs l).toList=l:=by unfold bs;exact ByteArray.toList_mk l
theorem aes {l m:List UInt8} (h:l=m):((bs l).toList==(bs m).toList)=true:=by rw[Ky,Ky,h];simp
theorem Uk {l m:List UInt8} (h:l≠m):((bs l).toList==(bs m).toList)=false:=by rw[Ky,Ky];simpa using h
theorem aeu (l:List UInt8) (k:Nat):(bs l).extract 0 k=bs (l.take k):=by unfold bs;rw[ByteArray.extract_mk];simp
theorem aer (l:List UInt8) (k:Nat):(bs l).extract k (bs l).size=bs (l.drop k):=by rw[mR];unfold bs;rw[ByteArray.extract_mk,List.take_of_length_le (by simp)]
theorem CB (l:List UInt8):(bs l).data.toList=l:=by unfold bs;simp
theorem V_ {a b:ByteArray} (h:a.size+b.size≤9223372036854775807) (W:World):(Op.stringOp .add a b).run Tryz.prog W= .ok (.string (a++b)) W:=run_string_add_sum W a b h
theorem lt_of_cell {w:World} {a:Addr} {v:Value} (h:w.cell? a=some v):a.block<w.heap.size:=by
 unfold World.cell? at h;rcases Nat.lt_or_ge a.block w.heap.size with h1|h1
 ·exact h1
 ·simp[Array.getElem?_eq_none h1]at h
theorem MG (s:ByteArray):s=bs s.data.toList:=by unfold bs;rfl
end Go.Proofs.YtodaapcohdpenaaGreat
namespace Go.Proofs.YtodaapcohdpenaaGreat
open Go.RowKit
end Go.Proofs.YtodaapcohdpenaaGreat
