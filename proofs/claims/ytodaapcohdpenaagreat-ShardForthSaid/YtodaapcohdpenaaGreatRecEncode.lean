-- eB
import Derived.Test.YtodaapcohdpenaaGreatGSq
import Derived.Test.YtodaapcohdpenaaGreatGRec
import Derived.Test.YtodaapcohdpenaaGreatGRecA
import Derived.Test.YtodaapcohdpenaaGreatGEnc
namespace Go.Proofs.YtodaapcohdpenaaGreat
open Go.RowKit
set_option maxHeartbeats 4000000
set_option maxRecDepth 100000
theorem arZ {v:Int} {r:au} (h:eP v r=false):nG v r=([],1):=by unfold nG;rw[h];rfl
theorem ar0 {v:Int} {r:au} (h:eP v r=true):nG v r=encR (fQ r):=by unfold nG;rw[h];rfl
theorem arN (v:Int) (r:au) (A:Option Addr) (n cap:Nat) (w:World) (hr:zK r) (h:dh w A n r.extra):
  Calls Tryz.prog 146 #[.int .i64 v,iL r (.slice A n cap)] w fun e w'=>e= .returned (.tuple #[.string (bs (nG v r).1),.int .i64 (nG v r).2])∧Below w.heap.size w w':=by
 have hbw:Below w.heap.size w (w.alloc (.cells (aC r (.slice A n cap)) 68)):=ak _ _;have h0:=h.below hbw;have p1:=RU v r A n cap _ hr h0
 cases hR:eP v r with
 |false=>
  rw[hR]at p1;have HE:Hid (nG v r=([],1)):=arZ hR;clear hR h h0;go_enter Tryz.func146,Tryz.ntmps146;go_wp2_with fail
  ((with_reducible refine p1.mono ?_);rintro e w1 ⟨rfl,b1⟩)
  go_wp2_with fail;go_ret2;exact⟨by rw[HE.out];rfl,aA hbw b1⟩
 |true=>
  rw[hR]at p1;have HE:Hid (nG v r=encR (fQ r)):=ar0 hR;have hp:=qV.1 hR;have hlen:n≤64:=by
   have:=(Ap.1 (qB.1 hp.2.2.2.2.2).1).1;have:=h.1;omega
  have hlf:=aa8 hp;have uo:=hp.2.2.2.1;have p2:=fun w h=>aoK r A n cap w hr uo ⟨hlf.1,hlf.2.1⟩ h hlen;have P2:=ah p2;have H0:=ah h0;clear hR hp hlf uo p2 h h0;generalize fQ r=fs at*;have hx:=World.alloc_heap_new w (.cells (aC r (.slice A n cap)) 68);have g0:=bJ hx 0;have g1:=bJ hx 1;have g2:=bJ hx 2;have g3:=bJ hx 3;have g4:=bJ hx 4;have g5:=bJ hx 5;have hz:w.heap.size<(w.alloc (.cells (aC r (.slice A n cap)) 68)).heap.size:=by simp
  clear hx;go_enter Tryz.func146,Tryz.ntmps146;go_wp2_with fail
  ((with_reducible refine p1.mono ?_);rintro e w1 ⟨rfl,b1⟩)
  have d0:=(b1.cell (p:=⟨w.heap.size,0,none⟩) hz).trans g0;have d1:=(b1.cell (p:=⟨w.heap.size,1,none⟩) hz).trans g1;have d2:=(b1.cell (p:=⟨w.heap.size,2,none⟩) hz).trans g2;have d3:=(b1.cell (p:=⟨w.heap.size,3,none⟩) hz).trans g3;have d4:=(b1.cell (p:=⟨w.heap.size,4,none⟩) hz).trans g4;have d5:=(b1.cell (p:=⟨w.heap.size,5,none⟩) hz).trans g5;clear g0 g1 g2 g3 g4 g5;have p3:=P2.out w1 (H0.out.below b1);go_wp2_with fail
  ((with_reducible refine p3.mono ?_);rintro e w2 ⟨A2,n2,cap2,rfl,hc2,hf2,b2⟩)
  have p4:=aow A2 n2 cap2 fs w2 hf2;clear hf2;go_wp2_with fail
  ((with_reducible refine p4.mono ?_);rintro e w3 ⟨rfl,b3⟩)
  go_wp2_with fail;go_ret2;exact⟨by rw[HE.out];rfl,aA (aA (aA hbw b1) b2) b3⟩
end Go.Proofs.YtodaapcohdpenaaGreat
