-- eB
import Derived.Test.YtodaapcohdpenaaGreatGEnc
import Derived.Test.YtodaapcohdpenaaGreatGFld
import Derived.Test.YtodaapcohdpenaaGreatGShM
import Derived.Lib.FrozenHead
import Derived.Lib.OthersKept
namespace Go.Proofs.YtodaapcohdpenaaGreat
open Go.RowKit
set_option linter.unusedSimpArgs false
set_option linter.unusedVariables false
set_option maxHeartbeats 1000000
set_option maxRecDepth 100000
def rY (B b:Nat) (p:Value) (l:List UInt8) (ver:Int) (w:World):Prop:=
 B≤b∧∃v,w.heap[b]? =some (.cells #[p,v,.int .i64 ver] 130 (0,0))∧w.ownsRowF B 5 1 v l.length (Lib.byteCells l)∧v.ownBlock≠some b
def lC (B b:Nat) (l:List UInt8) (ver:Int) (w:World):Prop:=rY B b (.pointer none) l ver w∨rY B b (.pointer (some ⟨b,0,none⟩)) l ver w
theorem rY.lt {B b:Nat} {p:Value} {l:List UInt8} {ver:Int} {w:World} (h:rY B b p l ver w):b<w.heap.size:=by
 obtain⟨_,v,hb,_⟩:=h;exact fF hb
theorem lC.lt {B b:Nat} {l:List UInt8} {ver:Int} {w:World} (h:lC B b l ver w):B≤b∧b<w.heap.size:=by
 rcases h with h|h
 ·exact⟨h.1,h.lt⟩
 ·exact⟨h.1,h.lt⟩
theorem ark {w w':World} {base size n:Nat} {e:TypeId} {v:Value} {xs:List Value} (h:w.ownsRowF base e size v n xs) (hb:Below w.heap.size w w'):w'.ownsRowF base e size v n xs:=
 h.kept (row:=none) ⟨hb.os,hb.tape,hb.output,hb.size,fun i hi _=>hb.block i hi⟩ (by cases v.ownBlock with
  |none=>exact .inl rfl
  |some x=>exact .inr (fun e=>by cases e))
theorem rY.below {B b:Nat} {p:Value} {l:List UInt8} {ver:Int} {w w':World} (h:rY B b p l ver w) (hb:Below w.heap.size w w'):rY B b p l ver w':=by
 have hlt:=h.lt;obtain⟨hB,v,hbk,hown,hne⟩:=h;exact⟨hB,v,(hb.block b hlt).trans hbk,ark hown hb,hne⟩
theorem lC.below {B b:Nat} {l:List UInt8} {ver:Int} {w w':World} (h:lC B b l ver w) (hb:Below w.heap.size w w'):lC B b l ver w':=by
 rcases h with h|h
 ·exact .inl (h.below hb)
 ·exact .inr (h.below hb)
theorem lC.drew {B b:Nat} {l:List UInt8} {ver:Int} {w:World} (h:lC B b l ver w):lC B b l ver w.drew:=h
theorem rY.set0 {B b:Nat} {p:Value} {l:List UInt8} {ver:Int} {w:World} (h:rY B b p l ver w) (q:Value):rY B b q l ver (w.setCell ⟨b,0,none⟩ q):=by
 obtain⟨hB,v,hb,hown,hne⟩:=h;refine⟨hB,v,?_,?_,hne⟩
 ·simp[World.setCell,Array.getElem?_modify,hb]
 ·exact hown.kept (row:=some b) ⟨rfl,rfl,rfl,by simp[World.setCell],fun k _ hk=>Below.heap_setCell _ _ _ _ (fun e=>hk (by simp[e]))⟩ (Or.inr hne)
theorem rY.put {B b:Nat} {p v v':Value} {l:List UInt8} {ver:Int} {w:World} (hB:B≤b) (hb:w.heap[b]? =some (.cells #[p,v,.int .i64 ver] 130 (0,0))) (hown:w.ownsRowF B 5 1 v' l.length (Lib.byteCells l)):
  rY B b p l ver (w.setCell ⟨b,1,none⟩ v'):=by
 have hne:=Lib.ownBlock_neF hown hb (by decide);refine⟨hB,v',?_,?_,hne⟩
 ·simp[World.setCell,Array.getElem?_modify,hb]
 ·exact hown.kept (row:=some b) ⟨rfl,rfl,rfl,by simp[World.setCell],fun k _ hk=>Below.heap_setCell _ _ _ _ (fun e=>hk (by simp[e]))⟩ (Or.inr hne)
theorem ao8 (B b:Nat) (l:List UInt8) (ver:Int) (w:World) (h:lC B b l ver w):
  Calls Tryz.prog 143 #[.pointer (some ⟨b,0,none⟩)] w fun e w'=>e= .returned (.tuple #[])∧(rY B b (.pointer (some ⟨b,0,none⟩)) l ver w'∧Below B w w'∧Lib.OthersKept 5 (some b) w w'):=by
 obtain⟨j,hj,hjs⟩:=Option.map_eq_some_iff.1 af_;rcases h with h|h
 ·have hs:∃v,w.heap[b]? =some (.cells #[.pointer none,v,.int .i64 ver] 130 (0,0)):=by obtain⟨_,v,hb,_⟩:=h;exact⟨v,hb⟩
  obtain⟨v,hb⟩:=hs;have h0:w.cell? ⟨b,0,none⟩=some (.pointer none):=by rw[Lib.cell_of_heap hb];rfl
  have hsh:w.shape? b=some (130,3):=by simp[World.shape?,hb]
  have hfz:w.frozen? ⟨b,0,none⟩=false:=Lib.frozen_of_heap hb 0;clear hb;go_enter Tryz.func143,Tryz.ntmps143;go_wp2;rw[Lib.run_to_unsafe w ⟨b,0,none⟩ Tryz.underlying125 Tryz.underlying187 hj (by rw[hjs];decide) hsh (Nat.zero_lt_succ 2)];simp only[Result.andThen];rw[Oper.upon_value];go_wp2;rw[run_callFunc_extern Tryz.func179 (by kernel_rfl) (by kernel_rfl) (by kernel_rfl) (e:=Extern.AbiNoEscape.same) (by kernel_rfl)];rw[Lib.run_noEscape];simp only[Result.andThen];rw[Oper.upon_value];go_wp2;rw[Lib.run_from_unsafe w ⟨b,0,none⟩ Tryz.underlying187 Tryz.underlying125 hj hsh (by kernel_rfl)];simp only[Result.andThen];rw[Oper.upon_value];have e0:=Lib.run_neq_ptr_same (P:=Tryz.prog) (w.setCell ⟨b,0,none⟩ (.pointer (some ⟨b,0,none⟩))) ⟨b,0,none⟩ Tryz.underlying125 hj;go_wp2
  go_end0
  exact⟨rfl,h.set0 _,(Below.refl B w).setCell (p:=⟨b,0,none⟩) h.1 _,(Lib.OthersKept.refl _ _ w).setCell ⟨b,0,none⟩ rfl _⟩
 ·have hs:∃v,w.heap[b]? =some (.cells #[.pointer (some ⟨b,0,none⟩),v,.int .i64 ver] 130 (0,0)):=by obtain⟨_,v,hb,_⟩:=h;exact⟨v,hb⟩
  obtain⟨v,hb⟩:=hs;have h0:w.cell? ⟨b,0,none⟩=some (.pointer (some ⟨b,0,none⟩)):=by rw[Lib.cell_of_heap hb];rfl
  clear hb;have e0:=Lib.run_neq_ptr_same (P:=Tryz.prog) w ⟨b,0,none⟩ Tryz.underlying125 hj;go_enter Tryz.func143,Tryz.ntmps143;go_wp2
  go_end0
  exact⟨rfl,h,Below.refl B _,Lib.OthersKept.refl _ _ _⟩
theorem amA (s:ByteArray):Lib.strCells s=Lib.byteCells s.data.toList:=rfl
theorem UQ (B b:Nat) (l:List UInt8) (ver:Int) (s:ByteArray) (w:World) (h:lC B b l ver w) (hlen:l.length+s.size≤140737488355328) (hBw:B≤w.heap.size):
  Calls Tryz.prog 91 #[.pointer (some ⟨b,0,none⟩),.string s] w fun e w'=>e= .returned (.tuple #[.int .i64 s.size,.nilIface])∧(lC B b (l++s.data.toList) ver w'∧Below B w w'∧Lib.OthersKept 5 (some b) w w'):=by
 obtain⟨i0,hi,hz0,hz1,hz2⟩:=info_parts aaZ;go_enter Tryz.func91,Tryz.ntmps91;go_wp2_with fail;refine(ao8 B b l ver _ h).mono ?_;rintro e w1 ⟨rfl,h1,hb1,ok1⟩;obtain⟨hB,v,hbk,hown,hne⟩:=h1;have c0:w1.cell? ⟨b,0,none⟩=some (.pointer (some ⟨b,0,none⟩)):=by rw[Lib.cell_of_heap hbk];rfl
 have c1:w1.cell? ⟨b,1,none⟩=some v:=by rw[Lib.cell_of_heap hbk];rfl
 go_wp2_with (at_builtin;refine Lib.wpList_append_own_stringF _ rfl _ _ 126 9 rfl B 5 i0 Tryz.underlying126 Tryz.underlying9 hi hz0 hz1 hz2 _ _ _ rfl hown s rfl ?c3 ?c4 ?c5 ?_)
 case c3=>unfold maxLen;omega
 case c4=>omega
 case c5=>have:=hb1.size;omega
 intro v' w2 hown' hgrow _;have hlt:b<w1.heap.size:=fF hbk;have hb2:w2.heap[b]? =some (.cells #[.pointer (some ⟨b,0,none⟩),v,.int .i64 ver] 130 (0,0)):=by
  rw[hgrow.block b hlt (fun e=>hne e.symm)];exact hbk
 have d0:w2.cell? ⟨b,0,none⟩=some (.pointer (some ⟨b,0,none⟩)):=by rw[Lib.cell_of_heap hb2];rfl
 have d1:w2.cell? ⟨b,1,none⟩=some v:=by rw[Lib.cell_of_heap hb2];rfl
 have f1:w2.frozen? ⟨b,1,none⟩=false:=Lib.frozen_of_heap hb2 1;obtain⟨ao,n',cap,rfl⟩:∃ao n' cap,v'= .slice ao n' cap:=by
  rcases hown'.2 with⟨hv,_⟩|⟨g,cap,cur,fz,hv,_⟩
  ·exact⟨_,_,_,hv⟩
  ·exact⟨_,_,_,hv⟩
 go_wp2;go_ret2;refine⟨rfl,.inr ?_,?_,?_⟩
 ·refine rY.put hB hb2 ?_;rw[byteCells_append,←amA,List.length_append,Fy];exact hown'
 ·exact(hb1.grown hgrow (by have:=hb1.size;omega) (fun k hk=>(hown.lt k hk).1)).setCell (p:=⟨b,1,none⟩) hB _
 ·refine(ok1.grown hgrow (Lib.ownsRowF_kind hown)).setCell ⟨b,1,none⟩ rfl _
theorem rY.froze {B b g cap:Nat} {p:Value} {l:List UInt8} {ver:Int} {w:World} (h:rY B b p l ver w) (hc:w.cell? ⟨b,1,none⟩=some (.slice (some ⟨g,0,none⟩) l.length cap)):
  rY B b p l ver (w.freeze ⟨g,0,none⟩ l.length):=by
 obtain⟨hB,v,hb,hown,hne⟩:=h;have hv:v= .slice (some ⟨g,0,none⟩) l.length cap:=by
  rw[Lib.cell_of_heap hb]at hc;simpa using hc
 subst hv;have hgb:g≠b:=fun e=>hne (by simp[Value.ownBlock,e]);unfold World.freeze;split
 ·exact⟨hB,_,hb,hown,hne⟩
 ·rename_i hn0;refine⟨hB,_,?_,⟨hown.1,?_⟩,hne⟩
  ·simp only[Array.getElem?_modify];rw[if_neg hgb];exact hb
  ·rcases hown.2 with⟨hv,_⟩|⟨g',cap',cur,fz,hv,hbg,hg,hfz,rest⟩
   ·cases hv
   ·injection hv with ha _ hcap;injection ha with ha;injection ha with hgg _ _;subst hgg;subst hcap;obtain⟨lo,hi⟩:=fz;refine .inr ⟨g,_,cur,(if lo==hi then(0,0+l.length)else(min lo 0,max hi (0+l.length))),rfl,hbg,?_,?_,rest⟩
    ·simp[Array.getElem?_modify,hg]
    ·simp only at hfz;split<;>simp<;>omega
theorem afv (B b:Nat) (l:List UInt8) (ver:Int) (w:World) (h:lC B b l ver w) (h0:l≠[]):
  Calls Tryz.prog 98 #[.pointer (some ⟨b,0,none⟩)] w fun e w'=>e= .returned (.string (bs l))∧(lC B b l ver w'∧Below B w w'∧Lib.OthersKept 5 (some b) w w'):=by
 have hl0:l.length≠0:=by simpa using h0
 obtain⟨p,hp,afI⟩:∃p,(p= .pointer none∨p= .pointer (some ⟨b,0,none⟩))∧rY B b p l ver w:=by
  rcases h with h|h
  ·exact⟨_,.inl rfl,h⟩
  ·exact⟨_,.inr rfl,h⟩
 have afJ:=afI;obtain⟨hB,v,hbk,hown,hne⟩:=afI;obtain⟨g,cap,cur,fz,rfl,hbg,hg,hfz,hnc,hcm,hcs,htake⟩:∃g cap cur fz,v= .slice (some ⟨g,0,none⟩) l.length cap∧B≤g∧w.heap[g]? =some (.cells cur 5 fz)∧fz.2≤l.length*1∧l.length≤cap∧cap≤maxLen∧cur.size=cap*1∧cur.toList.take (l.length*1)=Lib.byteCells l:=by
  rcases hown.2 with⟨_,hz⟩|⟨g,cap,cur,fz,hv,r⟩
  ·exact absurd hz hl0
  ·exact⟨g,cap,cur,fz,hv,r⟩
 have c1:w.drew.cell? ⟨b,1,none⟩=some (.slice (some ⟨g,0,none⟩) l.length cap):=by
  have:w.drew.heap[b]? =some (.cells #[p,.slice (some ⟨g,0,none⟩) l.length cap,.int .i64 ver] 130 (0,0)):=hbk;rw[Lib.cell_of_heap this];rfl
 have hSD:(Builtin.unsafeSliceData_ #[126] 172 #[.slice (some ⟨g,0,none⟩) l.length cap]).run Tryz.prog w.drew= .ok (.pointer (some ⟨g,0,none⟩)) w.drew:=
  Lib.run_unsafeSliceData_row _ _ _ _ _ _ (by omega)
 have hUS:(Builtin.unsafeString_ #[172,3] 9 #[.pointer (some ⟨g,0,none⟩),.int .i64 l.length]).run Tryz.prog w.drew= .ok (.string ⟨l.toArray⟩) (w.drew.freeze ⟨g,0,none⟩ l.length):=by
  refine Lib.run_unsafeString_row w.drew 172 3 9 5 Tryz.underlying172 (by kernel_rfl) g cur.size (by have hg':w.drew.heap[g]? =some (.cells cur 5 fz):=hg;simp[World.shape?,hg']) l h0 (by omega) (by unfold maxLen at hcm;omega) ?_;intro j x hx;exact hown.cells (g:=g) rfl j (.int .u8 x.toNat) (by simp[Lib.byteCells,hx])
 have hfr:=rY.froze (w:=w.drew) afJ c1;have hbl:Below B w (w.drew.freeze ⟨g,0,none⟩ l.length):=Lib.below_freeze (Below.drew (Below.refl B w)) (p:=⟨g,0,none⟩) hbg _;have hok:Lib.OthersKept 5 (some b) w (w.drew.freeze ⟨g,0,none⟩ l.length):=Lib.OthersKept.freeze ((Lib.OthersKept.refl _ _ w).drew) ⟨g,0,none⟩ _ ⟨cur,fz,hg⟩;have hend:lC B b l ver (w.drew.freeze ⟨g,0,none⟩ l.length):=by
  rcases hp with rfl|rfl
  ·exact .inl hfr
  ·exact .inr hfr
 clear afJ hbk hown hg hfz hnc hcm hcs htake hfr hne;go_enter Tryz.func98,Tryz.ntmps98;go_wp2;go_region
 all_goals (go_wp2;go_ret;exact⟨rfl,hend,hbl,hok⟩)
end Go.Proofs.YtodaapcohdpenaaGreat
