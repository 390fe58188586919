-- eB
import Derived.Test.YtodaapcohdpenaaGreatGSq
import Derived.Test.YtodaapcohdpenaaGreatShardTellsC
import Derived.Test.YtodaapcohdpenaaGreatOpenA
import Derived.Test.YtodaapcohdpenaaGreatOpenCl
import Derived.Test.YtodaapcohdpenaaGreatOpenSh
import Derived.OpenShut
import Derived.ShutString
import Derived.ChangeOld
import Derived.Below
import Derived.SizedLaws
namespace Go.Proofs.YtodaapcohdpenaaGreat
open Go.ChangeShapes Go.WideShapes Go.ChangeAt Go.RowKit
set_option linter.unusedVariables false
set_option maxRecDepth 100000
open Go.ChangeMaps (open_string shut_string)
theorem aru:ownKnob Tryz.prog.godebug=none:=by kernel_rfl
theorem sZ:laidOutB Tryz.prog=true:=by kernel_rfl
theorem aqr (kR:oM) (kS:oZ) (kA:rX) (kE:tV) (kD:tQ) (os:Os) (started:os.Started) (H:Type) (enc:TypeId×Value→H):
  ReturnsInHanded {} Tryz.checked os 3 .any (Rows.shardTellsSpec.pre6 enc Tryz.prog Tryz.f3 Rows.shardTellsRow.domain false) (Rows.shardTellsSpec.post enc Tryz.prog Tryz.f3 false true false false):=by
 refine returnsInHanded_of_change_sized (C:=Tryz.checked) aru started (by kernel_rfl) Tryz.func3
  (ChangeSpec.witness6 (enc:=enc) (C:=Tryz.checked) false ⟨#[],#[.int .i64 0,.int .i64 0,.bool false,.slice none 0 0,.agg z5,.agg #[.int .i64 0,.int .i64 0,.int .i64 0,.int .i64 0,.int .i64 0,.int .i64 0,.int .i64 0],.agg #[.int .i64 0,.int .i64 0,.int .i64 0,.int .i64 0,.int .i64 0,.string ByteArray.empty,.string ByteArray.empty,.int .i64 0,.string ByteArray.empty,.int .i64 0,.string ByteArray.empty],.int .i64 0],[]⟩ 8 (by kernel_rfl) (by kernel_rfl) (by kernel_rfl) (by kernel_rfl)) ?_
 intro W base args ds gs before hval0 hW hcnd hsz0 _;have hsz:(DataW.weightsEach Tryz.prog (Tryz.f3.params.toList++Rows.shardTellsSpec.plain.varTypes Tryz.prog) (ds++gs)).all (·≤reachBytes)=true:=hsz0;clear hsz0;have hval:∀(j:Nat) t v,Tryz.f3.params[j]? =some t→args[j]? =some v→Value.okWide Tryz.prog W .any base t v:=hval0;have hW':=hW;obtain⟨p,q,rH,hV,rfl,hfz,hnd⟩:=hW;have hA:DataW.TrodAll enc Tryz.prog W 0 (fun _=>true) true Tryz.f3.params.toList args.toList ds p:=rH;rw[Tryz.params3]at hA hval hsz;obtain⟨v0,N9,d0,ds0,p0,q0,hargs,rfl,rfl,h0,r0⟩:=trodAll_cons hA;obtain⟨v1,vs1,d1,ds1,p1,q1,rfl,rfl,rfl,h1,r1⟩:=trodAll_cons r0;obtain⟨v2,vs2,d2,Qq,p2,q2,rfl,rfl,rfl,h2,r2⟩:=trodAll_cons r1;obtain⟨v3,vs3,d3,ds3,p3,q3,rfl,rfl,rfl,h3,r3⟩:=trodAll_cons r2;obtain⟨v4,vs4,d4,ds4,p4,q4,rfl,rfl,rfl,h4,r4⟩:=trodAll_cons r3;obtain⟨v5,vs5,d5,ds5,p5,q5,rfl,rfl,rfl,h5,r5⟩:=trodAll_cons r4;obtain⟨v6,vs6,d6,ds6,p6,q6,rfl,rfl,rfl,h6,r6⟩:=trodAll_cons r5;obtain⟨v7,vs7,d7,ds7,p7,q7,rfl,rfl,rfl,h7,r7⟩:=trodAll_cons r6;obtain⟨rfl,rfl,rfl⟩:=trodAll_nil r7;obtain rfl:args= #[v0,v1,v2,v3,v4,v5,v6,v7]:=by cases args;simp_all
 obtain⟨rfl,rfl⟩:=trodVars_none hV;obtain⟨a0,rfl,rfl,rfl,w0⟩:=open_int Tryz.underlying3 (hval 0 3 v0 rfl rfl) h0;obtain⟨a1,rfl,rfl,rfl,w1⟩:=open_int Tryz.underlying3 (hval 1 3 v1 rfl rfl) h1;obtain⟨a2,rfl,rfl,rfl⟩:=open_bool Tryz.underlying4 (hval 2 4 v2 rfl rfl) h2;have k3:=h3;have K3:∀x∈p3,x.block<W.heap.size:=by obtain⟨m,hm⟩:=k3;exact DataW.trod_lt m _ _ _ hm
 obtain⟨a3,n3,rE,f3,rfl,Vh,w3⟩:=Jh Tryz.underlying22 Tryz.underlying27 Tryz.underlying3 (by kernel_rfl) (by kernel_rfl) (by decide) (hval 3 22 v3 rfl rfl) h3;have k4:=h4;have lt4:∀x∈p4,x.block<W.heap.size:=by obtain⟨m,hm⟩:=k4;exact DataW.trod_lt m _ _ _ hm
 obtain⟨c4,a4,n4,cap4,b4,m4,cm4,rfl,w4,q4,z4⟩:=arh (hval 4 26 v4 rfl rfl) h4 (fun n hn=>by simpa using List.all_eq_true.1 hsz _ (DataW.weights_mem_each (j:=4) rfl rfl n hn));have k5:=h5;have lt5:∀x∈p5,x.block<W.heap.size:=by obtain⟨m,hm⟩:=k5;exact DataW.trod_lt m _ _ _ hm
 obtain⟨uF,uG,uH,uI,x54,x55,uJ,rfl,w50,w51,w52,w53,w54,w55,w56⟩:=abe Tryz.underlying27 Tryz.underlying3 (by kernel_rfl) (by kernel_rfl) (hval 5 27 v5 rfl rfl) h5;have k6:=h6;have lt6:∀x∈p6,x.block<W.heap.size:=by obtain⟨m,hm⟩:=k6;exact DataW.trod_lt m _ _ _ hm
 obtain⟨c6,rfl,w6⟩:=aq9 (hval 6 31 v6 rfl rfl) h6 (fun n hn=>by simpa using List.all_eq_true.1 hsz _ (DataW.weights_mem_each (j:=6) rfl rfl n hn));obtain⟨a7,rfl,rfl,rfl,w7⟩:=open_int Tryz.underlying3 (hval 7 3 v7 rfl rfl) h7;clear rH hval0;refine(aty kR kS kA kE kD a0 a1 a2 a3 n3 rE f3 c4 a4 n4 cap4 b4 m4 cm4 uF uG uH uI x54 x55 uJ c6 a7 W w0 w1 w3 w4 q4 z4 w50 w51 w52 w53 w54 w55 w56 w6 w7).mono fun e W' ⟨he,nO⟩=>?_;subst he;exact⟨_,rfl,_,_,_,[],_,[],hW',trodAll_mk1 (shut_bool Tryz.underlying4 _),(trodAll_cons_mk (shut_int Tryz.underlying3 w0) (trodAll_cons_mk (shut_int Tryz.underlying3 w1) (trodAll_cons_mk (shut_bool Tryz.underlying4 a2) (trodAll_cons_mk (Below.trod sZ (by kernel_rfl) (of_decide_eq_true (by kernel_rfl)) k3 nO K3) (trodAll_cons_mk (Below.trod sZ (by kernel_rfl) (of_decide_eq_true (by kernel_rfl)) k4 nO lt4) (trodAll_cons_mk (Below.trod sZ (by kernel_rfl) (of_decide_eq_true (by kernel_rfl)) k5 nO lt5) (trodAll_cons_mk (Below.trod sZ (by kernel_rfl) (of_decide_eq_true (by kernel_rfl)) k6 nO lt6) (trodAll_cons_mk (shut_int Tryz.underlying3 w7) trodAll_mk0)))))))),rfl,nO.frame _,fun h=>by cases h⟩
theorem atz (kR:oM) (kS:oZ) (kA:rX) (kE:tV) (kD:tQ):Rows.ShardTellsSaid:=
 OpenClaim.holds_of_wide 3 Tryz.f3 rfl rfl rfl rfl rfl rfl rfl ⟨rfl,rfl,rfl,rfl,rfl⟩ rfl rfl rfl rfl rfl (by kernel_rfl) Tryz.func3 (by kernel_rfl)
  (of_decide_eq_true (by kernel_rfl)) (by unfold Func.isWrapper;first|(rw[if_pos (by decide+kernel)];kernel_rfl)|(rw[if_neg (by decide+kernel)];exact⟨rfl,rfl⟩))
  (fun os started H enc _=>aqr kR kS kA kE kD os started H enc)
end Go.Proofs.YtodaapcohdpenaaGreat
