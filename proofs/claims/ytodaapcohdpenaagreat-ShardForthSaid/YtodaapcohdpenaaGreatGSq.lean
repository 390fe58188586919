-- eB
import Derived.OrdersHeld
import Derived.Deep.RegionHeld
import Derived.Test.YtodaapcohdpenaaGreatGFld
import Derived.Test.YtodaapcohdpenaaGreatGShM
import Derived.KernelRfl
namespace Go.Proofs.YtodaapcohdpenaaGreat
open Go.RowKit
set_option linter.unusedVariables false
section
variable {P:Program} {ops:Array Oper} {Q:Exit→Act→World→Prop} {md:Region.Mode} {S:World→Prop} {ends:List Nat}
def Aw (ends:List Nat) (listed:Array Bool):Bool:=ends.all fun s=>!(listed.getD s false)
theorem abR {listed:Array Bool}:Aw ends listed=true↔∀s∈ends,listed.getD s false=false:=by simp[Aw]
def EJ (md:Region.Mode) (ops:Array Oper) (listed:Array Bool):Prop:=∀j oj,ops[j]? =some oj→listed.getD j false=true→∀e∈oj.after,Region.binds md e=true→listed.getD e.on false=true
def EG (md:Region.Mode) (ops:Array Oper):Nat→Nat→Nat→Bool
 |0,_,_=>false
 |f+1,s,i=>match ops[s]? with
  |none=>false
  |some o=>o.after.any fun e=>Region.binds md e&&(e.on==i||EG md ops f e.on i)
theorem aib {f s i:Nat} {o:Oper} {listed:Array Bool} (ho:ops[s]? =some o) (hc:EJ md ops listed)
  (hall:∀e∈o.after,Region.binds md e=true→listed.getD e.on false=true) (ih:∀t,EG md ops f t i=true→listed.getD t false=true→listed.getD i false=true)
  (h:EG md ops (f+1) s i=true):listed.getD i false=true:=by
 rw[EG,ho]at h;simp only at h;rw[←Array.any_toList]at h;simp only[List.any_eq_true,Bool.and_eq_true,Bool.or_eq_true,beq_iff_eq,Array.mem_toList_iff]at h;obtain⟨e,he,hb,h⟩:=h;rcases h with rfl|h
 ·exact hall e he hb
 ·exact ih _ h (hall e he hb)
theorem ab6 {listed:Array Bool} (hc:EJ md ops listed) {i:Nat}:∀(f s:Nat),EG md ops f s i=true→listed.getD s false=true→listed.getD i false=true
 |0,_,h,_=>by cases h
 |f+1,s,h,hs=>by
  cases ho:ops[s]? with
  |none=>rw[EG,ho]at h;cases h
  |some o=>exact aib ho hc (hc s o ho hs) (fun t=>ab6 hc f t) h
theorem auW {listed:Array Bool} (hc:EJ md ops listed) {i:Nat} (f s:Nat) (h:EG md ops f s i=true) (hs:s∈Region.ready md ops listed):listed.getD i false=true:=by
 obtain⟨_,o,ho,hall⟩:=mem_ready.1 hs
 cases f with
 |zero=>cases h
 |succ f=>exact aib ho hc hall (fun t=>ab6 hc f t) h
theorem MR {listed:Array Bool} (hc:EJ md ops listed) {i:Nat} (hi:i∈Region.ready md ops listed):EJ md ops (listed.setIfInBounds i true):=by
 intro j oj hj hl e he hb;obtain⟨_,o,ho,hall⟩:=mem_ready.1 hi
 by_cases hji:i=j
 ·subst hji;rw[ho]at hj
  cases hj
  exact getD_set_true (hall e he hb)
 ·rw[getD_set_ne false hji]at hl;exact getD_set_true (hc j oj hj hl e he hb)
theorem anv (n:Nat):EJ md ops (Array.replicate n false):=by
 intro j oj _ hl;rw[Array.getD_eq_getD_getElem?,Array.getElem?_replicate]at hl;split at hl<;>cases hl
def Jw (P:Program) (md:Region.Mode) (ops:Array Oper) (Q:Exit→Act→World→Prop) (S:World→Prop) (ends:List Nat):Nat→Array Bool→Act→World→Prop
 |0,listed,a,w=>Region.ready md ops listed=[]∧Q .normal a w
 |fuel+1,listed,a,w=>
  (Region.ready md ops listed=[]→Q .normal a w)∧
  ∀i∈Region.ready md ops listed,wpOp P ops Q i (fun a' w'=>(Aw ends (listed.setIfInBounds i true)=true→S w')∧Jw P md ops Q S ends fuel (listed.setIfInBounds i true) a' w') a w
theorem aie:∀(fuel:Nat) (listed:Array Bool) (a:Act) (w:World),Jw P md ops Q S ends fuel listed a w→wpAny P md ops Q fuel listed a w
 |0,_,_,_,h=>h
 |fuel+1,_,_,_,h=>⟨h.1,fun i hi=>wpOp_mono (fun a' w' h'=>aie fuel _ a' w' h'.2) (h.2 i hi)⟩
theorem au2 {i:Nat} {oi:Oper} {v:Value} (hi:ops[i]? =some oi) (hsel:∀(j:Nat) (o:Oper) cs b,ops[j]? =some o→o.op≠.select cs b)
  (hQ:∀c a w,Q (.panic c) (a.put oi.dst v) w→Q (.panic c) a w) (hne:∀s∈ends,s≠i) (hwt:∀s∈ends,∃f,EG md ops f s i=true):
  ∀(fuel:Nat) (listed:Array Bool) (a:Act) (w:World),EJ md ops listed→
   (∀j oj,ops[j]? =some oj→j≠i→listed.getD j true=false→(∀e∈oj.after,Region.binds md e=true→e.on≠i)→oi.apart ops oj=true)→
   i∈Region.ready md ops listed→YieldsIf P ops S oi v a→S w→
   Jw P md ops Q S ends fuel (listed.setIfInBounds i true) (a.put oi.dst v) w→Jw P md ops Q S ends (fuel+1) listed a w:=by
 intro fuel
 induction fuel with
 |zero=>
  intro listed a w hcl _ hr hy hS H;refine⟨fun h=>(by rw[h]at hr;cases hr),fun j hj=>?_⟩
  by_cases hji:j=i
  ·subst hji;exact hy.wpOp hi hS ⟨fun _=>hS,H⟩
  ·have:=ready_mono hj hji;rw[H.1]at this
   cases this
 |succ fuel ih=>
  intro listed a w hcl hfree hr hy hS H;refine⟨fun h=>(by rw[h]at hr;cases hr),fun j hj=>?_⟩
  by_cases hji:j=i
  ·subst hji;exact hy.wpOp hi hS ⟨fun _=>hS,H⟩
  ·have h1:=H.2 j (ready_mono hj hji);obtain⟨hjun,oj,hoj,hall⟩:=mem_ready.1 hj;have aav:listed.getD i false≠true:=fun h1=>by
    have h0:=(mem_ready.1 hr).1;rcases Nat.lt_or_ge i listed.size with h'|h'
    ·simp[h']at h0 h1;rw[h0]at h1;cases h1
    ·simp[Array.getElem?_eq_none h']at h1
   have hnot:∀e∈oj.after,Region.binds md e=true→e.on≠i:=fun e he hb heq=>aav (heq▸hall e he hb);have iw:j∉ends:=fun h=>by
    obtain⟨f,hf⟩:=hwt j h;exact aav (auW hcl f j hf hj)
   have hst:Aw ends ((listed.setIfInBounds i true).setIfInBounds j true)=true:=abR.2 fun s hs=>by
    rw[getD_set_ne false (fun e=>iw (by rw[e];exact hs)),getD_set_ne false (Ne.symm (hne s hs))]
    cases hsl:listed.getD s false with
    |false=>rfl
    |true=>
     obtain⟨f,hf⟩:=hwt s hs;exact absurd (ab6 hcl f s hf hsl) aav
   have h2:=wpOp_putIf hoj (hfree j oj hoj hji hjun hnot) (fun cs b=>hsel i oi cs b hi) (fun cs b=>hsel j oj cs b hoj) hQ hy h1;have hfree':∀k ok,ops[k]? =some ok→k≠i→(listed.setIfInBounds j true).getD k true=false→
     (∀e∈ok.after,Region.binds md e=true→e.on≠i)→oi.apart ops ok=true:=fun k ok hk hki hun hno=>by
    refine hfree k ok hk hki ?_ hno
    by_cases hjk:j=k
    ·subst hjk;exact hjun
    ·rw[getD_set_ne true hjk]at hun;exact hun
   refine wpOp_mono (fun a' w' h3=>⟨fun _=>h3.2.1 hst,ih (listed.setIfInBounds j true) a' w' (MR hcl hj) hfree' (ready_mono hr (Ne.symm hji)) h3.1 (h3.2.1 hst) ?_⟩) h2;rw[Array.setIfInBounds_comm _ _ hji];exact h3.2.2
theorem abS {listed:Array Bool} {i:Nat} (hne:∀s∈ends,s≠i):Aw ends (listed.setIfInBounds i true)=Aw ends listed:=by
 rw[Bool.eq_iff_iff,abR,abR];constructor<;>intro h s hs
 ·have:=h s hs
  rwa [getD_set_ne false (Ne.symm (hne s hs))]at this
 ·rw[getD_set_ne false (Ne.symm (hne s hs))];exact h s hs
theorem aij {i:Nat} {oi:Oper} {v:Value} (hi:ops[i]? =some oi) (hsel:∀(j:Nat) (o:Oper) cs b,ops[j]? =some o→o.op≠.select cs b)
  (hQ:∀c a w,Q (.panic c) (a.put oi.dst v) w→Q (.panic c) a w) (hne:∀s∈ends,s≠i):
  ∀(fuel:Nat) (listed:Array Bool) (a:Act) (w:World),
   (∀j oj,ops[j]? =some oj→j≠i→listed.getD j true=false→(∀e∈oj.after,Region.binds md e=true→e.on≠i)→oi.apart ops oj=true)→
   i∈Region.ready md ops listed→YieldsIf P ops (fun _=>True) oi v a→(Aw ends listed=true→S w)→
   Jw P md ops Q S ends fuel (listed.setIfInBounds i true) (a.put oi.dst v) w→Jw P md ops Q S ends (fuel+1) listed a w:=by
 intro fuel
 induction fuel with
 |zero=>
  intro listed a w _ hr hy hS H;refine⟨fun h=>(by rw[h]at hr;cases hr),fun j hj=>?_⟩
  by_cases hji:j=i
  ·subst hji;exact hy.wpOp hi trivial ⟨fun h=>hS (by rwa [abS hne]at h),H⟩
  ·have:=ready_mono hj hji;rw[H.1]at this
   cases this
 |succ fuel ih=>
  intro listed a w hfree hr hy hS H;refine⟨fun h=>(by rw[h]at hr;cases hr),fun j hj=>?_⟩
  by_cases hji:j=i
  ·subst hji;exact hy.wpOp hi trivial ⟨fun h=>hS (by rwa [abS hne]at h),H⟩
  ·have h1:=H.2 j (ready_mono hj hji);obtain⟨hjun,oj,hoj,hall⟩:=mem_ready.1 hj;have hnot:∀e∈oj.after,Region.binds md e=true→e.on≠i:=fun e he hb heq=>by
    have h1:=hall e he hb;have h0:=(mem_ready.1 hr).1;rw[heq]at h1;rcases Nat.lt_or_ge i listed.size with h'|h'
    ·simp[h']at h0 h1;rw[h0]at h1;cases h1
    ·simp[Array.getElem?_eq_none h']at h1
   have h2:=wpOp_putIf hoj (hfree j oj hoj hji hjun hnot) (fun cs b=>hsel i oi cs b hi) (fun cs b=>hsel j oj cs b hoj) hQ hy h1;have hfree':∀k ok,ops[k]? =some ok→k≠i→(listed.setIfInBounds j true).getD k true=false→
     (∀e∈ok.after,Region.binds md e=true→e.on≠i)→oi.apart ops ok=true:=fun k ok hk hki hun hno=>by
    refine hfree k ok hk hki ?_ hno
    by_cases hjk:j=k
    ·subst hjk;exact hjun
    ·rw[getD_set_ne true hjk]at hun;exact hun
   have hst:Aw ends ((listed.setIfInBounds i true).setIfInBounds j true)=Aw ends (listed.setIfInBounds j true):=by
    rw[Array.setIfInBounds_comm _ _ (Ne.symm hji),abS hne]
   refine wpOp_mono (fun a' w' h3=>⟨fun h=>h3.2.1 (hst.trans h),ih (listed.setIfInBounds j true) a' w' hfree' (ready_mono hr (Ne.symm hji)) h3.1 (fun h=>h3.2.1 (hst.trans h)) ?_⟩) h2;rw[Array.setIfInBounds_comm _ _ hji];exact h3.2.2
def tO (P:Program) (md:Region.Mode) (ops:Array Oper) (Q:Exit→Act→World→Prop) (S:World→Prop) (ends:List Nat) (fuel:Nat) (listed:Array Bool) (a:Act) (w:World):Prop:=
 EJ md ops listed→Jw P md ops Q S ends fuel listed a w
theorem au4 {i:Nat} {oi:Oper} {v:Value} {fuel:Nat} {listed:Array Bool} {a:Act} {w:World} (hi:ops[i]? =some oi)
  (hs:Region.noSelect ops=true) (hf:Region.free md ops listed i=true) (hr:(Region.ready md ops listed).contains i=true) (hen:(ends.all fun s=>s != i&&EG md ops 100 s i)=true)
  (hQ:∀c a w,Q (.panic c) (a.put oi.dst v) w→Q (.panic c) a w) (hy:YieldsIf P ops S oi v a) (hS:S w)
  (h:tO P md ops Q S ends fuel (listed.setIfInBounds i true) (a.put oi.dst v) w):tO P md ops Q S ends (fuel+1) listed a w:=fun hcl=>by
 have hr':i∈Region.ready md ops listed:=by simpa using hr
 simp only[List.all_eq_true,Bool.and_eq_true,bne_iff_ne]at hen;exact au2 hi (Region.noSelect_spec hs) hQ (fun s hs=>(hen s hs).1) (fun s hs=>⟨100,(hen s hs).2⟩) fuel listed a w hcl (Region.free_spec hi hf) hr' hy hS (h (MR hcl hr'))
theorem au3 {i:Nat} {oi:Oper} {v:Value} {fuel:Nat} {listed:Array Bool} {a:Act} {w:World} (hi:ops[i]? =some oi)
  (hs:Region.noSelect ops=true) (hf:Region.free md ops listed i=true) (hr:(Region.ready md ops listed).contains i=true) (hen:(ends.all fun s=>s != i)=true)
  (hQ:∀c a w,Q (.panic c) (a.put oi.dst v) w→Q (.panic c) a w) (hy:YieldsIf P ops (fun _=>True) oi v a) (hS:S w)
  (h:tO P md ops Q S ends fuel (listed.setIfInBounds i true) (a.put oi.dst v) w):tO P md ops Q S ends (fuel+1) listed a w:=fun hcl=>by
 have hr':i∈Region.ready md ops listed:=by simpa using hr
 simp only[List.all_eq_true,bne_iff_ne]at hen;exact aij hi (Region.noSelect_spec hs) hQ hen fuel listed a w (Region.free_spec hi hf) hr' hy (fun _=>hS) (h (MR hcl hr'))
theorem au1 {i:Nat} {oi:Oper} {v:Value} {fuel:Nat} {listed:Array Bool} {a:Act} {w:World} (hi:ops[i]? =some oi)
  (hs:Region.noSelect ops=true) (hf:Region.free md ops listed i=true) (hr:(Region.ready md ops listed).contains i=true) (hen:(ends.all fun s=>s != i)=true)
  (hQ:∀c a w,Q (.panic c) (a.put oi.dst v) w→Q (.panic c) a w) (hy:YieldsIf P ops (fun _=>True) oi v a) (hst:Aw ends listed=false)
  (h:tO P md ops Q S ends fuel (listed.setIfInBounds i true) (a.put oi.dst v) w):tO P md ops Q S ends (fuel+1) listed a w:=fun hcl=>by
 have hr':i∈Region.ready md ops listed:=by simpa using hr
 simp only[List.all_eq_true,bne_iff_ne]at hen;exact aij hi (Region.noSelect_spec hs) hQ hen fuel listed a w (Region.free_spec hi hf) hr' hy (fun h=>absurd (hst.symm.trans h) (by decide)) (h (MR hcl hr'))
def jA (P:Program) (md:Region.Mode) (ops:Array Oper) (Q:Exit→Act→World→Prop) (S:World→Prop) (ends:List Nat) (fuel:Nat) (listed:Array Bool) (a:Act) (w:World) (rs:List Nat):Prop:=
 ∀i∈rs,i∈Region.ready md ops listed→EJ md ops listed→wpOp P ops Q i (fun a' w'=>(Aw ends (listed.setIfInBounds i true)=true→S w')∧Jw P md ops Q S ends fuel (listed.setIfInBounds i true) a' w') a w
theorem jA.nil {fuel:Nat} {listed:Array Bool} {a:Act} {w:World}:jA P md ops Q S ends fuel listed a w []:=fun _ h=>by cases h
theorem jA.cons {fuel:Nat} {listed:Array Bool} {a:Act} {w:World} {i:Nat} {o:Oper} {rs:List Nat} (ho:ops[i]? =some o)
  (h:∀K':Act→World→Prop,Shut (∀a w,S w→(S w→tO P md ops Q S ends fuel (listed.setIfInBounds i true) a w)→K' a w)→if Region.wanted o (yielded ops a.tmps)=true then Oper.wp P o a w K' Q else K' (a.put o.dst undef) w)
  (hs:jA P md ops Q S ends fuel listed a w rs):jA P md ops Q S ends fuel listed a w (i::rs):=fun j hj hr hcl=>by
 rcases List.mem_cons.1 hj with rfl|hj
 ·exact wpOp_step ho (fun K' hK=>h K' (fun a w hS hW=>hK a w ⟨fun _=>hS,hW hS (MR hcl hr)⟩))
 ·exact hs j hj hr hcl
theorem jA.last {fuel:Nat} {listed:Array Bool} {a:Act} {w:World} {i:Nat} {o:Oper} {rs:List Nat} (ho:ops[i]? =some o) (hst:Aw ends (listed.setIfInBounds i true)=false)
  (h:∀K':Act→World→Prop,Shut (∀a w,True→(True→tO P md ops Q S ends fuel (listed.setIfInBounds i true) a w)→K' a w)→if Region.wanted o (yielded ops a.tmps)=true then Oper.wp P o a w K' Q else K' (a.put o.dst undef) w)
  (hs:jA P md ops Q S ends fuel listed a w rs):jA P md ops Q S ends fuel listed a w (i::rs):=fun j hj hr hcl=>by
 rcases List.mem_cons.1 hj with rfl|hj
 ·exact wpOp_step ho (fun K' hK=>h K' (fun a w _ hW=>hK a w ⟨fun h=>absurd (hst.symm.trans h) (by decide),hW trivial (MR hcl hr)⟩))
 ·exact hs j hj hr hcl
theorem wQ {rs:List Nat} {fuel:Nat} {listed:Array Bool} {a:Act} {w:World} (hr:Region.ready md ops listed=rs) (hne:rs≠[])
  (h:jA P md ops Q S ends fuel listed a w rs):tO P md ops Q S ends (fuel+1) listed a w:=fun hcl=>
 ⟨fun h0=>absurd (hr▸h0) hne,fun i hi=>h i (hr▸hi) hi hcl⟩
theorem Dt {listed:Array Bool} {a:Act} {w:World} (hr:Region.ready md ops listed=[]) (h:Q .normal a w):
  ∀fuel,tO P md ops Q S ends fuel listed a w
 |0=>fun _=>⟨hr,h⟩
 |_+1=>fun _=>⟨fun _=>h,by rw[hr];simp⟩
theorem Du {id:Nat} {a:Act} {w:World} (ends:List Nat) (hm:P.follows .mixedOrders=true) (hS:S w.drew)
  (h:S w.drew→tO P .any ops Q S ends ops.size (Array.replicate ops.size false) a w.drew):(Code.region id ops true).wp P Q a w:=
 wp_region_any hm (aie _ _ _ _ (h hS (anv _)))
end
theorem Nt:(∀(a:Act) (d:Tmp) (v:Value),a.put (some d) v={ a with tmps:=a.tmps.setIfInBounds d v })∧(∀(a:Act) (v:Value),a.put none v=a)∧
  (∀(l:List Value) (i:Nat) (v:Value),l.toArray.setIfInBounds i v=(l.set i v).toArray)∧(∀(l:List Bool) (i:Nat) (v:Bool),l.toArray.setIfInBounds i v=(l.set i v).toArray)∧
  (∀(l:List Value) (x v:Value),(x::l).set 0 v=v::l)∧(∀(l:List Bool) (x v:Bool),(x::l).set 0 v=v::l)∧
  (∀(l:List Value) (i:Nat) (x v:Value),(x::l).set (i+1) v=x::l.set i v)∧(∀(l:List Bool) (i:Nat) (x v:Bool),(x::l).set (i+1) v=x::l.set i v)∧
  (∀(l:List Oper) (i:Nat) (h:i<l.toArray.size),l.toArray[i]=l[i]'(by simpa using h))∧(∀(l:List Oper) (x:Oper) (h:0<(x::l).length),(x::l)[0]=x)∧(∀(l:List Oper) (i:Nat) (x:Oper) (h:i+1<(x::l).length),(x::l)[i+1]=l[i]'(by simpa using h)):=
 ⟨fun _ _ _=>rfl,fun _ _=>rfl,fun _ _ _=>by simp,fun _ _ _=>by simp,fun _ _ _=>rfl,fun _ _ _=>rfl,fun _ _ _ _=>rfl,fun _ _ _ _=>rfl,fun _ _ _=>by simp,fun _ _ _=>rfl,fun _ _ _ _=>rfl⟩
theorem aM:(∀(l:List Value) (i:Nat),l.toArray[i]? =l[i]?)∧(∀(l:List Value) (x:Value),(x::l)[0]? =some x)∧(∀(l:List Value) (i:Nat) (x:Value),(x::l)[i+1]? =l[i]?):=
 ⟨fun _ _=>by simp,fun _ _=>by simp,fun _ _ _=>by simp⟩
section
variable {P:Program} {ops:Array Oper} {Q:Exit→Act→World→Prop} {md:Region.Mode} {S:World→Prop}
theorem ay (i:Nat) {oi:Oper} {v:Value} {fuel:Nat} {listed:Array Bool} {a a':Act} {w:World} (h:wpAnyH P md ops Q S fuel (listed.setIfInBounds i true) a' w)
  (hi:ops[i]? =some oi:=by rfl) (hs:Region.noSelect ops=true:=by kernel_rfl) (hf:Region.free md ops listed i=true:=by kernel_rfl) (hr:(Region.ready md ops listed).contains i=true:=by kernel_rfl)
  (hw:Region.wanted oi (yielded ops a.tmps)=true:=by rfl) (hS:S w:=by assumption)
  (hy:∀w,S w→(execOp a.eval oi).run P w= .ok (.value v) w:=by(intro w hSw;(try dsimp only at hSw);go_simp;(try with_reducible rfl)))
  (hp:a.put oi.dst v=a':=by(simp only[Nt];try rfl))
  (hQ:∀c a w,Q (.panic c) (a.put oi.dst v) w→Q (.panic c) a w:=by exact fun _ _ _ h=>h):wpAnyH P md ops Q S (fuel+1) listed a w:=
 wpAnyH_take hi hs hf hr hQ (.inl ⟨hw,hy⟩) hS (hp▸h)
theorem eG (i:Nat) {oi:Oper} {fuel:Nat} {listed:Array Bool} {a a':Act} {w:World} (h:wpAnyH P md ops Q S fuel (listed.setIfInBounds i true) a' w)
  (hi:ops[i]? =some oi:=by rfl) (hs:Region.noSelect ops=true:=by kernel_rfl) (hf:Region.free md ops listed i=true:=by kernel_rfl) (hr:(Region.ready md ops listed).contains i=true:=by kernel_rfl)
  (hw:Region.wanted oi (yielded ops a.tmps)=false:=by rfl) (hS:S w:=by assumption)
  (hp:a.put oi.dst undef=a':=by(simp only[Nt];try rfl))
  (hQ:∀c a w,Q (.panic c) (a.put oi.dst undef) w→Q (.panic c) a w:=by exact fun _ _ _ h=>h):wpAnyH P md ops Q S (fuel+1) listed a w:=
 wpAnyH_take hi hs hf hr hQ (.inr ⟨hw,rfl⟩) hS (hp▸h)
theorem bH (i:Nat) {o:Oper} {fuel:Nat} {listed:Array Bool} {a:Act} {w:World}
  (h:∀K':Act→World→Prop,Shut (∀a w,S w→(S w→wpAnyH P md ops Q S fuel (listed.setIfInBounds i true) a w)→K' a w)→Oper.wp P o a w K' Q)
  (hr:Region.ready md ops listed=[i]:=by kernel_rfl) (ho:ops[i]? =some o:=by rfl) (hw:Region.wanted o (yielded ops a.tmps)=true:=by rfl):wpAnyH P md ops Q S (fuel+1) listed a w:=
 wpAnyH_ready hr (by simp) (AllReadyH.cons ho (fun K hK=>by rw[if_pos hw];exact h K hK) AllReadyH.nil)
end
section
variable {P:Program} {ops:Array Oper} {Q:Exit→Act→World→Prop} {md:Region.Mode} {S:World→Prop} {ends:List Nat}
theorem dA (i:Nat) {oi:Oper} {v:Value} {fuel:Nat} {listed:Array Bool} {a a':Act} {w:World} (h:tO P md ops Q S ends fuel (listed.setIfInBounds i true) a' w)
  (hi:ops[i]? =some oi:=by rfl) (hs:Region.noSelect ops=true:=by kernel_rfl) (hf:Region.free md ops listed i=true:=by kernel_rfl) (hr:(Region.ready md ops listed).contains i=true:=by kernel_rfl)
  (hen:(ends.all fun s=>s != i&&EG md ops 100 s i)=true:=by kernel_rfl)
  (hw:Region.wanted oi (yielded ops a.tmps)=true:=by rfl) (hS:S w:=by assumption)
  (hy:∀w,S w→(execOp a.eval oi).run P w= .ok (.value v) w:=by(intro w hSw;(try dsimp only at hSw);go_simp;(try with_reducible rfl)))
  (hp:a.put oi.dst v=a':=by(simp only[Nt];try rfl))
  (hQ:∀c a w,Q (.panic c) (a.put oi.dst v) w→Q (.panic c) a w:=by exact fun _ _ _ h=>h):tO P md ops Q S ends (fuel+1) listed a w:=
 au4 hi hs hf hr hen hQ (.inl ⟨hw,hy⟩) hS (hp▸h)
theorem tp_ (i:Nat) {oi:Oper} {v:Value} {fuel:Nat} {listed:Array Bool} {a a':Act} {w:World} (h:tO P md ops Q S ends fuel (listed.setIfInBounds i true) a' w)
  (hi:ops[i]? =some oi:=by rfl) (hs:Region.noSelect ops=true:=by kernel_rfl) (hf:Region.free md ops listed i=true:=by kernel_rfl) (hr:(Region.ready md ops listed).contains i=true:=by kernel_rfl)
  (hen:(ends.all fun s=>s != i)=true:=by kernel_rfl)
  (hw:Region.wanted oi (yielded ops a.tmps)=true:=by rfl) (hS:S w:=by assumption)
  (hy:∀w,True→(execOp a.eval oi).run P w= .ok (.value v) w:=by(intro w hSw;(try dsimp only at hSw);go_simp;(try with_reducible rfl)))
  (hp:a.put oi.dst v=a':=by(simp only[Nt];try rfl))
  (hQ:∀c a w,Q (.panic c) (a.put oi.dst v) w→Q (.panic c) a w:=by exact fun _ _ _ h=>h):tO P md ops Q S ends (fuel+1) listed a w:=
 au3 hi hs hf hr hen hQ (.inl ⟨hw,hy⟩) hS (hp▸h)
theorem tq_ (i:Nat) {oi:Oper} {v:Value} {fuel:Nat} {listed:Array Bool} {a a':Act} {w:World} (h:tO P md ops Q S ends fuel (listed.setIfInBounds i true) a' w)
  (hi:ops[i]? =some oi:=by rfl) (hs:Region.noSelect ops=true:=by kernel_rfl) (hf:Region.free md ops listed i=true:=by kernel_rfl) (hr:(Region.ready md ops listed).contains i=true:=by kernel_rfl)
  (hen:(ends.all fun s=>s != i)=true:=by kernel_rfl)
  (hw:Region.wanted oi (yielded ops a.tmps)=true:=by rfl) (hst:Aw ends listed=false:=by kernel_rfl)
  (hy:∀w,True→(execOp a.eval oi).run P w= .ok (.value v) w:=by(intro w hSw;(try dsimp only at hSw);go_simp;(try with_reducible rfl)))
  (hp:a.put oi.dst v=a':=by(simp only[Nt];try rfl))
  (hQ:∀c a w,Q (.panic c) (a.put oi.dst v) w→Q (.panic c) a w:=by exact fun _ _ _ h=>h):tO P md ops Q S ends (fuel+1) listed a w:=
 au1 hi hs hf hr hen hQ (.inl ⟨hw,hy⟩) hst (hp▸h)
theorem qH (i:Nat) {o:Oper} {fuel:Nat} {listed:Array Bool} {a:Act} {w:World}
  (h:∀K':Act→World→Prop,Shut (∀a w,S w→(S w→tO P md ops Q S ends fuel (listed.setIfInBounds i true) a w)→K' a w)→Oper.wp P o a w K' Q)
  (hr:Region.ready md ops listed=[i]:=by kernel_rfl) (ho:ops[i]? =some o:=by rfl) (hw:Region.wanted o (yielded ops a.tmps)=true:=by rfl):tO P md ops Q S ends (fuel+1) listed a w:=
 wQ hr (by simp) (jA.cons ho (fun K hK=>by rw[if_pos hw];exact h K hK) jA.nil)
end
theorem bc2 {W:World} {g:Nat} {x0 x1:Value} {T:TypeId} {fr:Nat×Nat} (h:aj W g (.cells #[x0,x1] T fr)):W.cell? ⟨g,0,none⟩=some x0∧W.cell? ⟨g,1,none⟩=some x1:=⟨aj.cell h 0,aj.cell h 1⟩
theorem bc3 {W:World} {g:Nat} {x0 x1 x2:Value} {T:TypeId} {fr:Nat×Nat} (h:aj W g (.cells #[x0,x1,x2] T fr)):W.cell? ⟨g,0,none⟩=some x0∧W.cell? ⟨g,1,none⟩=some x1∧W.cell? ⟨g,2,none⟩=some x2:=⟨aj.cell h 0,aj.cell h 1,aj.cell h 2⟩
theorem aY {W:World} {g:Nat} {x0 x1 x2 x3:Value} {T:TypeId} {fr:Nat×Nat} (h:aj W g (.cells #[x0,x1,x2,x3] T fr)):W.cell? ⟨g,0,none⟩=some x0∧W.cell? ⟨g,1,none⟩=some x1∧W.cell? ⟨g,2,none⟩=some x2∧W.cell? ⟨g,3,none⟩=some x3:=⟨aj.cell h 0,aj.cell h 1,aj.cell h 2,aj.cell h 3⟩
theorem aZ {W:World} {g:Nat} {x0 x1 x2 x3 x4:Value} {T:TypeId} {fr:Nat×Nat} (h:aj W g (.cells #[x0,x1,x2,x3,x4] T fr)):W.cell? ⟨g,0,none⟩=some x0∧W.cell? ⟨g,1,none⟩=some x1∧W.cell? ⟨g,2,none⟩=some x2∧W.cell? ⟨g,3,none⟩=some x3∧W.cell? ⟨g,4,none⟩=some x4:=⟨aj.cell h 0,aj.cell h 1,aj.cell h 2,aj.cell h 3,aj.cell h 4⟩
theorem sN {W:World} {g:Nat} {x0 x1 x2 x3 x4 x5:Value} {T:TypeId} {fr:Nat×Nat} (h:aj W g (.cells #[x0,x1,x2,x3,x4,x5] T fr)):W.cell? ⟨g,0,none⟩=some x0∧W.cell? ⟨g,1,none⟩=some x1∧W.cell? ⟨g,2,none⟩=some x2∧W.cell? ⟨g,3,none⟩=some x3∧W.cell? ⟨g,4,none⟩=some x4∧W.cell? ⟨g,5,none⟩=some x5:=⟨aj.cell h 0,aj.cell h 1,aj.cell h 2,aj.cell h 3,aj.cell h 4,aj.cell h 5⟩
theorem Fv {W:World} {g:Nat} {x0 x1 x2 x3 x4 x5 x6:Value} {T:TypeId} {fr:Nat×Nat} (h:aj W g (.cells #[x0,x1,x2,x3,x4,x5,x6] T fr)):W.cell? ⟨g,0,none⟩=some x0∧W.cell? ⟨g,1,none⟩=some x1∧W.cell? ⟨g,2,none⟩=some x2∧W.cell? ⟨g,3,none⟩=some x3∧W.cell? ⟨g,4,none⟩=some x4∧W.cell? ⟨g,5,none⟩=some x5∧W.cell? ⟨g,6,none⟩=some x6:=⟨aj.cell h 0,aj.cell h 1,aj.cell h 2,aj.cell h 3,aj.cell h 4,aj.cell h 5,aj.cell h 6⟩
theorem bc8 {W:World} {g:Nat} {x0 x1 x2 x3 x4 x5 x6 x7:Value} {T:TypeId} {fr:Nat×Nat} (h:aj W g (.cells #[x0,x1,x2,x3,x4,x5,x6,x7] T fr)):W.cell? ⟨g,0,none⟩=some x0∧W.cell? ⟨g,1,none⟩=some x1∧W.cell? ⟨g,2,none⟩=some x2∧W.cell? ⟨g,3,none⟩=some x3∧W.cell? ⟨g,4,none⟩=some x4∧W.cell? ⟨g,5,none⟩=some x5∧W.cell? ⟨g,6,none⟩=some x6∧W.cell? ⟨g,7,none⟩=some x7:=⟨aj.cell h 0,aj.cell h 1,aj.cell h 2,aj.cell h 3,aj.cell h 4,aj.cell h 5,aj.cell h 6,aj.cell h 7⟩
theorem bc9 {W:World} {g:Nat} {x0 x1 x2 x3 x4 x5 x6 x7 x8:Value} {T:TypeId} {fr:Nat×Nat} (h:aj W g (.cells #[x0,x1,x2,x3,x4,x5,x6,x7,x8] T fr)):W.cell? ⟨g,0,none⟩=some x0∧W.cell? ⟨g,1,none⟩=some x1∧W.cell? ⟨g,2,none⟩=some x2∧W.cell? ⟨g,3,none⟩=some x3∧W.cell? ⟨g,4,none⟩=some x4∧W.cell? ⟨g,5,none⟩=some x5∧W.cell? ⟨g,6,none⟩=some x6∧W.cell? ⟨g,7,none⟩=some x7∧W.cell? ⟨g,8,none⟩=some x8:=⟨aj.cell h 0,aj.cell h 1,aj.cell h 2,aj.cell h 3,aj.cell h 4,aj.cell h 5,aj.cell h 6,aj.cell h 7,aj.cell h 8⟩
theorem aei {W:World} {g:Nat} {x0 x1 x2 x3 x4 x5 x6 x7 x8 x9:Value} {T:TypeId} {fr:Nat×Nat} (h:aj W g (.cells #[x0,x1,x2,x3,x4,x5,x6,x7,x8,x9] T fr)):W.cell? ⟨g,0,none⟩=some x0∧W.cell? ⟨g,1,none⟩=some x1∧W.cell? ⟨g,2,none⟩=some x2∧W.cell? ⟨g,3,none⟩=some x3∧W.cell? ⟨g,4,none⟩=some x4∧W.cell? ⟨g,5,none⟩=some x5∧W.cell? ⟨g,6,none⟩=some x6∧W.cell? ⟨g,7,none⟩=some x7∧W.cell? ⟨g,8,none⟩=some x8∧W.cell? ⟨g,9,none⟩=some x9:=⟨aj.cell h 0,aj.cell h 1,aj.cell h 2,aj.cell h 3,aj.cell h 4,aj.cell h 5,aj.cell h 6,aj.cell h 7,aj.cell h 8,aj.cell h 9⟩
theorem iI {W:World} {g:Nat} {x0 x1 x2 x3 x4 x5 x6 x7 x8 x9 x10:Value} {T:TypeId} {fr:Nat×Nat} (h:aj W g (.cells #[x0,x1,x2,x3,x4,x5,x6,x7,x8,x9,x10] T fr)):W.cell? ⟨g,0,none⟩=some x0∧W.cell? ⟨g,1,none⟩=some x1∧W.cell? ⟨g,2,none⟩=some x2∧W.cell? ⟨g,3,none⟩=some x3∧W.cell? ⟨g,4,none⟩=some x4∧W.cell? ⟨g,5,none⟩=some x5∧W.cell? ⟨g,6,none⟩=some x6∧W.cell? ⟨g,7,none⟩=some x7∧W.cell? ⟨g,8,none⟩=some x8∧W.cell? ⟨g,9,none⟩=some x9∧W.cell? ⟨g,10,none⟩=some x10:=⟨aj.cell h 0,aj.cell h 1,aj.cell h 2,aj.cell h 3,aj.cell h 4,aj.cell h 5,aj.cell h 6,aj.cell h 7,aj.cell h 8,aj.cell h 9,aj.cell h 10⟩
theorem bf2 {W:World} {b:Nat} {cs:Array Value} {T:TypeId} (h:aj W b (.cells cs T (0,0))):W.frozen? ⟨b,0,none⟩=false∧W.frozen? ⟨b,1,none⟩=false:=⟨aj.frozen h 0,aj.frozen h 1⟩
theorem bf3 {W:World} {b:Nat} {cs:Array Value} {T:TypeId} (h:aj W b (.cells cs T (0,0))):W.frozen? ⟨b,0,none⟩=false∧W.frozen? ⟨b,1,none⟩=false∧W.frozen? ⟨b,2,none⟩=false:=⟨aj.frozen h 0,aj.frozen h 1,aj.frozen h 2⟩
theorem dX {W:World} {b:Nat} {cs:Array Value} {T:TypeId} (h:aj W b (.cells cs T (0,0))):W.frozen? ⟨b,0,none⟩=false∧W.frozen? ⟨b,1,none⟩=false∧W.frozen? ⟨b,2,none⟩=false∧W.frozen? ⟨b,3,none⟩=false:=⟨aj.frozen h 0,aj.frozen h 1,aj.frozen h 2,aj.frozen h 3⟩
theorem kV {W:World} {b:Nat} {cs:Array Value} {T:TypeId} (h:aj W b (.cells cs T (0,0))):W.frozen? ⟨b,0,none⟩=false∧W.frozen? ⟨b,1,none⟩=false∧W.frozen? ⟨b,2,none⟩=false∧W.frozen? ⟨b,3,none⟩=false∧W.frozen? ⟨b,4,none⟩=false:=⟨aj.frozen h 0,aj.frozen h 1,aj.frozen h 2,aj.frozen h 3,aj.frozen h 4⟩
theorem Zz {W:World} {b:Nat} {cs:Array Value} {T:TypeId} (h:aj W b (.cells cs T (0,0))):W.frozen? ⟨b,0,none⟩=false∧W.frozen? ⟨b,1,none⟩=false∧W.frozen? ⟨b,2,none⟩=false∧W.frozen? ⟨b,3,none⟩=false∧W.frozen? ⟨b,4,none⟩=false∧W.frozen? ⟨b,5,none⟩=false:=⟨aj.frozen h 0,aj.frozen h 1,aj.frozen h 2,aj.frozen h 3,aj.frozen h 4,aj.frozen h 5⟩
theorem Kv {W:World} {b:Nat} {cs:Array Value} {T:TypeId} (h:aj W b (.cells cs T (0,0))):W.frozen? ⟨b,0,none⟩=false∧W.frozen? ⟨b,1,none⟩=false∧W.frozen? ⟨b,2,none⟩=false∧W.frozen? ⟨b,3,none⟩=false∧W.frozen? ⟨b,4,none⟩=false∧W.frozen? ⟨b,5,none⟩=false∧W.frozen? ⟨b,6,none⟩=false:=⟨aj.frozen h 0,aj.frozen h 1,aj.frozen h 2,aj.frozen h 3,aj.frozen h 4,aj.frozen h 5,aj.frozen h 6⟩
theorem ak (w:World) (o:Obj):Below w.heap.size w (w.alloc o):=(Below.refl _ _).alloc (Nat.le_refl _) o
theorem aQ {α:Type _} (w:α):∃W,w=W:=⟨_,rfl⟩
theorem ah {p:Prop} (h:p):Hid p:=h
abbrev aS (s:ShR) (x y:Value):Array Value:=#[.int .i64 s.id,.int .i64 s.epoch,.bool s.frozen,x,y]
abbrev bS (s:ShR) (f:Bool) (x y:Value):Array Value:=#[.int .i64 s.id,.int .i64 s.epoch,.bool f,x,y]
abbrev aR (r:dx) (x:Value):Array Value:=#[.int .i64 r.errno,.int .i64 r.rev,.string r.value,x]
abbrev bR (e:Int) (x:Value):Array Value:=#[.int .i64 e,.int .i64 0,.string ⟨#[]⟩,x]
abbrev aC (r:au) (x:Value):Array Value:=#[.string r.key,.string r.value,.int .i64 r.rev,.int .i64 r.life,.string r.note,x]
abbrev aD (d:aF) (x:Value):Array Value:=#[.int .i64 d.client,.int .i64 d.id,.int .i64 d.rep.errno,.int .i64 d.rep.rev,.string d.rep.value,x]
abbrev aO (o:aX):Array Value:=#[.int .i64 o.kind,.string o.key,.string o.value,.int .i64 o.rev,.string o.upto,.int .i64 o.life,.string o.note]
abbrev aL (c:iM):Array Value:=#[.int .i64 c.fZ,.int .i64 c.epoch,.int .i64 c.client,.int .i64 c.id,.int .i64 c.op.kind,.string c.op.key,.string c.op.value,.int .i64 c.op.rev,.string c.op.upto,.int .i64 c.op.life,.string c.op.note]
abbrev aW (A:Option Addr) (n c:Nat) (o:aX) (p:Int) (th:Bool):Array Value:=#[.slice A n c,.int .i64 o.kind,.string o.key,.string o.value,.int .i64 o.rev,.string o.upto,.int .i64 o.life,.string o.note,.int .i64 p,.bool th]
abbrev z4:Array Value:=#[.int .i64 0,.int .i64 0,.string ⟨#[]⟩,.slice none 0 0]
abbrev z5:Array Value:=#[.int .i64 0,.int .i64 0,.bool false,.slice none 0 0,.slice none 0 0]
abbrev z6:Array Value:=#[.string ⟨#[]⟩,.string ⟨#[]⟩,.int .i64 0,.int .i64 0,.string ⟨#[]⟩,.slice none 0 0]
abbrev zD:Array Value:=#[.int .i64 0,.int .i64 0,.int .i64 0,.int .i64 0,.string ⟨#[]⟩,.slice none 0 0]
section
variable {P:Program} {ops:Array Oper} {Q:Exit→Act→World→Prop} {md:Region.Mode} {S:World→Prop}
theorem wM (i j:Nat) {oi oj:Oper} {fuel:Nat} {listed:Array Bool} {a:Act} {w:World}
  (h1:∀K':Act→World→Prop,Shut (∀a w,S w→(S w→wpAnyH P md ops Q S fuel (listed.setIfInBounds i true) a w)→K' a w)→Oper.wp P oi a w K' Q)
  (h2:∀K':Act→World→Prop,Shut (∀a w,S w→(S w→wpAnyH P md ops Q S fuel (listed.setIfInBounds j true) a w)→K' a w)→Oper.wp P oj a w K' Q)
  (hr:Region.ready md ops listed=[i,j]:=by kernel_rfl) (hi:ops[i]? =some oi:=by rfl) (hj:ops[j]? =some oj:=by rfl)
  (hwi:Region.wanted oi (yielded ops a.tmps)=true:=by rfl) (hwj:Region.wanted oj (yielded ops a.tmps)=true:=by rfl):wpAnyH P md ops Q S (fuel+1) listed a w:=
 wpAnyH_ready hr (by simp) (AllReadyH.cons hi (fun K hK=>by rw[if_pos hwi];exact h1 K hK) (AllReadyH.cons hj (fun K hK=>by rw[if_pos hwj];exact h2 K hK) AllReadyH.nil))
theorem jK (i:Nat) {oi:Oper} {v:Value} {fuel:Nat} {listed:Array Bool} {a a':Act} {w:World} {C:World→Prop} (hc:∀w,S w→C w) (h:wpAnyH P md ops Q S fuel (listed.setIfInBounds i true) a' w)
  (hi:ops[i]? =some oi:=by rfl) (hs:Region.noSelect ops=true:=by kernel_rfl) (hf:Region.free md ops listed i=true:=by kernel_rfl) (hr:(Region.ready md ops listed).contains i=true:=by kernel_rfl)
  (hw:Region.wanted oi (yielded ops a.tmps)=true:=by rfl) (hS:S w:=by assumption)
  (hy:∀w,C w→(execOp a.eval oi).run P w= .ok (.value v) w:=by(intro w hSw;(try dsimp only at hSw);go_simp;(try with_reducible rfl)))
  (hp:a.put oi.dst v=a':=by(simp only[Nt];try rfl))
  (hQ:∀c a w,Q (.panic c) (a.put oi.dst v) w→Q (.panic c) a w:=by exact fun _ _ _ h=>h):wpAnyH P md ops Q S (fuel+1) listed a w:=
 wpAnyH_take hi hs hf hr hQ (.inl ⟨hw,fun w hS=>hy w (hc w hS)⟩) hS (hp▸h)
end
end Go.Proofs.YtodaapcohdpenaaGreat
