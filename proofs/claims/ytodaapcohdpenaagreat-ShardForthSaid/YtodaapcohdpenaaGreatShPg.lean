-- eB
import Derived.Test.YtodaapcohdpenaaGreatGSq
import Derived.Test.YtodaapcohdpenaaGreatShPd
import Derived.Test.YtodaapcohdpenaaGreatShParse
import Derived.WalkLawsBesides
import Derived.WalkSmall
namespace Go.Proofs.YtodaapcohdpenaaGreat
open Go.RowKit
set_option linter.unusedSimpArgs false
set_option linter.unusedVariables false
set_option maxHeartbeats 8000000
set_option maxRecDepth 100000
def bW (w:World) (g:Nat) (s:List UInt8) (ver:Int):Prop:=w.heap[g]? =some (.cells #[.string (bs s),.int .i64 ver] 147 (0,0))
theorem bW.below {w w':World} {g:Nat} {s:List UInt8} {ver:Int} (h:bW w g s ver) (hb:Below w.heap.size w w'):bW w' g s ver:=Eq.trans (hb.block g (fF h)) h
theorem bW.cells {w:World} {g:Nat} {s:List UInt8} {ver:Int} (h:bW w g s ver):w.cell? ⟨g,0,none⟩=some (.string (bs s))∧w.cell? ⟨g,1,none⟩=some (.int .i64 ver):=⟨bJ h 0,bJ h 1⟩
theorem bW.set {w:World} {g:Nat} {s:List UInt8} {ver:Int} (h:bW w g s ver) (r:List UInt8):bW (w.setCell ⟨g,0,none⟩ (.string (bs r))) g r ver:=aj.set h 0 (.string (bs r)) #[.string (bs r),.int .i64 ver] rfl
def Sk (B:Nat) (w:World) (e:Ending) (w':World):Prop:=∃u x,e= .panicked [{ v:=.iface u x,recovered:=false }]∧Below B w w'
theorem ow {w w':World} (h:Below w.heap.size w w') (row:Option Nat):w.grownBy w' row:=⟨h.os,h.tape,h.output,h.size,fun k hk _=>h.block k hk⟩
theorem kU {w w':World} {g B:Nat} (h:w.grownBy w' (some g)) (hB:B≤g) (hg:g<w.heap.size):Below B w w':=⟨h.os,h.tape,h.output,h.size,fun k hk=>h.block k (by omega) (fun e=>by cases e;omega)⟩
def ug (g:Nat) (ver:Int) (w:World) {α:Type} (P:Option (α×List UInt8)) (val:α→Value) (e:Ending) (w':World):Prop:=
 (∃x r,P=some (x,r)∧e= .returned (val x)∧bW w' g r ver∧w.grownBy w' (some g))∨(P=none∧Sk g w e w')
abbrev I7 (n:Nat):Value:=.int .i64 n
abbrev Lf (l:List UInt8):Value:=.string (bs l)
theorem Wo (g:Nat) (s:List UInt8) (ver:Int) (w:World) (h:bW w g s ver) (hs:s.length≤140737490355328):
  Calls Tryz.prog 154 #[.pointer (some ⟨g,0,none⟩)] w (ug g ver w (jZ s) I7):=by
 have q1:=R_ (bs s) (by rw[mR];unfold maxLen;omega) w;rw[CB]at q1;have bI:=ah (fF h);obtain⟨c0,c1⟩:=h.cells;have HK:=abV s;have O1:Hid (jZ s=if(bY s).2.2=0 then some ((bY s).1,s.drop (bY s).2.1)else none):=rfl;generalize jZ s=P at*;generalize bY s=T at*;obtain⟨n,k,z⟩:=T;simp only at q1 HK O1;have hsl:∀W:World,(Instr.slice 9 (.string (bs s)) (some (.int .i64 k)) none none).run Tryz.prog W= .ok (.string (bs (s.drop k))) W:=fun W=>NP (aer s k) (by rw[mR];exact HK.1) W;have HKK:=ah HK;clear HK hs;have HT:=ah h;clear h;go_enter Tryz.func154,Tryz.ntmps154;go_wp2_with fail
 ((with_reducible refine q1.mono ?_);rintro e W1 ⟨rfl,b1⟩)
 clear q1 c0 c1;have HT1:=ah (HT.out.below b1);have HB1:=ah b1;clear b1;obtain⟨c0,c1⟩:=HT1.out.cells;have f0:W1.frozen? ⟨g,0,none⟩=false:=rF HT1.out 0
 by_cases hz:z=0
 ·subst hz;have HP:Hid (P=some (n,s.drop k)):=by show _=_;rw[O1.out,if_pos rfl]
  have HE:Hid (bW (W1.setCell ⟨g,0,none⟩ (.string (bs (s.drop k)))) g (s.drop k) ver∧w.grownBy (W1.setCell ⟨g,0,none⟩ (.string (bs (s.drop k)))) (some g)):=⟨HT1.out.set _,(ow HB1.out (some g)).trans (grownBy_setCell' W1 g _)⟩;clear O1;go_wp2_with fail;go_ret;exact .inl ⟨n,s.drop k,HP.out,rfl,HE.out.1,HE.out.2⟩
 ·have HP:Hid (P=none):=by show _=_;rw[O1.out,if_neg hz]
  have ez:((z:Int) != 0)=true:=by rw[bne_iff_ne];omega
  clear O1 hz;go_wp2_with fail;exact⟨rfl,.inr ⟨HP.out,_,_,rfl,HB1.out.mono (Nat.le_of_lt bI.out)⟩⟩
theorem Ws (g K:Nat) (s:List UInt8) (ver:Int) (w:World) (h:bW w g s ver) (hs:s.length≤140737490355328):
  Calls Tryz.prog 155 #[.pointer (some ⟨g,0,none⟩),.int .i64 K] w (ug g ver w (oD K s) I7):=by
 have q1:=Wo g s ver w h hs;have bI:=ah (fF h);have PG:Hid (oD K s=(jZ s).bind fun x=>if x.1≤K then some x else none):=rfl;generalize oD K s=P at*;generalize jZ s=N at*;clear h hs;go_enter Tryz.func155,Tryz.ntmps155;go_wp2_with fail
 ((with_reducible refine q1.mono ?_);rintro e W1 (⟨n,r,rfl,rfl,hb,hg⟩|⟨rfl,u,x,rfl,hb⟩))
 rotate_left
 ·exact⟨rfl,.inr ⟨PG.out,u,x,rfl,hb⟩⟩
 have HB:=ah hb;clear hb;have HG:=ah hg;clear hg q1
 by_cases hk:n≤K
 ·have HP:Hid (P=some (n,r)):=by show _=_;rw[PG.out];simp[hk]
  have hgt:¬(K:Int)<(n:Int):=by omega
  clear PG;go_wp2_with fail;go_ret;exact .inl ⟨n,r,HP.out,rfl,HB.out,HG.out⟩
 ·have HP:Hid (P=none):=by show _=_;rw[PG.out];simp[hk]
  have hgt:(K:Int)<(n:Int):=by omega
  clear PG;go_wp2_with fail;exact⟨rfl,.inr ⟨HP.out,_,_,rfl,kU HG.out (Nat.le_refl _) bI.out⟩⟩
theorem ah0 (g n:Nat) (s:List UInt8) (ver:Int) (w:World) (h:bW w g s ver) (hs:s.length≤140737490355328):
  Calls Tryz.prog 153 #[.pointer (some ⟨g,0,none⟩),.int .i64 n] w (ug g ver w (Bw n s) Lf):=by
 have bI:=ah (fF h);obtain⟨c0,c1⟩:=h.cells;have f0:w.frozen? ⟨g,0,none⟩=false:=rF h 0;have hsz:(bs s).size=s.length:=mR s;have Sv:Hid (Bw n s=if n≤s.length then some (s.take n,s.drop n)else none):=rfl;generalize Bw n s=P at*;have HT:=ah h;clear h
 by_cases hk:n≤s.length
 ·have HP:Hid (P=some (s.take n,s.drop n)):=by show _=_;rw[Sv.out,if_pos hk]
  have hsl:∀W:World,(Instr.slice 9 (.string (bs s)) (some (.int .i64 n)) none none).run Tryz.prog W= .ok (.string (bs (s.drop n))) W:=fun W=>NP (aer s n) (by rw[mR];exact hk) W;have hst:∀W:World,(Instr.slice 9 (.string (bs s)) none (some (.int .i64 n)) none).run Tryz.prog W= .ok (.string (bs (s.take n))) W:=fun W=>ahN (aeu s n) (by rw[mR];exact hk) W;have hgt:¬(((bs s).size:Nat):Int)<(n:Int):=by rw[hsz];omega
  have HE:Hid (bW (w.setCell ⟨g,0,none⟩ (.string (bs (s.drop n)))) g (s.drop n) ver∧w.grownBy (w.setCell ⟨g,0,none⟩ (.string (bs (s.drop n)))) (some g)):=⟨HT.out.set _,grownBy_setCell' w g _⟩;clear Sv hsz hk hs;go_enter Tryz.func153,Tryz.ntmps153;go_wp2_with fail;go_ret;exact .inl ⟨s.take n,s.drop n,HP.out,rfl,HE.out.1,HE.out.2⟩
 ·have HP:Hid (P=none):=by show _=_;rw[Sv.out,if_neg hk]
  have hgt:(((bs s).size:Nat):Int)<(n:Int):=by rw[hsz];omega
  clear Sv hsz hk hs;go_enter Tryz.func153,Tryz.ntmps153;go_wp2_with fail;exact⟨rfl,.inr ⟨HP.out,_,_,rfl,Below.refl _ _⟩⟩
theorem rP {s:List UInt8} {n:Nat} {r:List UInt8} (h:jZ s=some (n,r)):r.length≤s.length:=by
 have:=(Am h).1;rw[this,List.length_append];omega
theorem ug.aqB {g:Nat} {ver:Int} {w w1:World} {α:Type} {P:Option (α×List UInt8)} {val:α→Value} {e:Ending} {w':World} (hg:w.grownBy w1 (some g)) (hlt:g<w.heap.size) (h:ug g ver w1 P val e w'):ug g ver w P val e w':=by
 rcases h with⟨x,r,h1,h2,h3,h4⟩|⟨h1,u,x,h2,h3⟩
 ·exact .inl ⟨x,r,h1,h2,h3,hg.trans h4⟩
 ·exact .inr ⟨h1,u,x,h2,(kU hg (Nat.le_refl _) hlt).trans h3⟩
theorem abZ (g:Nat) (s:List UInt8) (ver:Int) (w:World) (h:bW w g s ver) (hs:s.length≤140737490355328):
  Calls Tryz.prog 189 #[.pointer (some ⟨g,0,none⟩)] w (ug g ver w (tN s) Lf):=by
 have q1:=Wo g s ver w h hs;have bI:=ah (fF h);have HSL:=ah hs;clear hs;have PE:Hid (tN s=(jZ s).bind fun x=>Bw x.1 x.2):=rfl;have Tj:Hid (∀n r,jZ s=some (n,r)→r.length≤s.length):=fun n r h=>rP h;generalize tN s=P at*;generalize jZ s=N at*;clear h;go_enter Tryz.func189,Tryz.ntmps189;go_wp2_with fail
 ((with_reducible refine q1.mono ?_);rintro e W1 (⟨n,r,rfl,rfl,hb,hg⟩|⟨rfl,u,x,rfl,hb⟩))
 rotate_left
 ·exact⟨rfl,.inr ⟨PE.out,u,x,rfl,hb⟩⟩
 have HP:Hid (P=Bw n r):=PE.out;have q2:=ah0 g n r ver W1 hb (Nat.le_trans (Tj.out n r rfl) HSL.out);have HG:=ah hg;clear hg q1 hb PE;go_wp2_with fail
 ((with_reducible refine q2.mono ?_);rintro e W2 hr)
 have hr2:=ug.aqB HG.out bI.out hr;rw[←HP.out]at hr2;clear hr q2;rcases hr2 with⟨x,r2,hP,rfl,hb,hg⟩|⟨hP,u,x,rfl,hb⟩;rotate_left
 ·exact⟨rfl,.inr ⟨hP,u,x,rfl,hb⟩⟩
 have HE:Hid (ug g ver w P Lf (.returned (Lf x)) W2):=.inl ⟨x,r2,hP,rfl,hb,hg⟩;clear hP hb hg HP;go_wp2_with fail;go_ret;exact HE.out
end Go.Proofs.YtodaapcohdpenaaGreat
