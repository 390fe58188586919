-- eB
import Derived.Test.YtodaapcohdpenaaGreatShLawMath
import Derived.Test.YtodaapcohdpenaaGreatGShM
namespace Go.Proofs.YtodaapcohdpenaaGreat
open Go.RowKit
set_option linter.unusedVariables false
theorem Zt {t:List au} {b:Nat} (h:∀r∈t,r.extra.length≤b) (i:Nat):(atR t i).extra.length≤b:=by
 by_cases hi:i<t.length
 ·exact h _ (sK hi)
 ·unfold atR;rw[List.getD_eq_getElem?_getD,List.getElem?_eq_none (by omega)];exact Nat.zero_le _
theorem abI {t:List au} {b:Nat} (h:∀r∈t,r.extra.length≤b) {x:au} (hx:x.extra.length≤b) (i:Nat):∀r∈t.set i x,r.extra.length≤b:=fun r hr=>by
 rcases List.mem_or_eq_of_mem_set hr with h1|rfl
 ·exact h r h1
 ·exact hx
theorem arK {t:List au} {b:Nat} (h:∀r∈t,r.extra.length≤b) (k:Option Nat) (o:aX):∀r∈(bM t k o).1,r.extra.length≤b:=by
 unfold bM
 cases k with
 |none=>
  simp only;split
  ·exact h
  ·intro r hr;rcases Rs.1 hr with rfl|h1
   ·exact Nat.zero_le _
   ·exact h r h1
 |some i=>
  simp only;split
  ·exact h
  ·exact abI h (x:=vF (atR t i) o) (Zt h i) i
theorem an_ {t:List au} {b:Nat} (h:∀r∈t,r.extra.length≤b) (o:aX):∀r∈(bO t o).1,r.extra.length≤b:=by
 unfold bO
 repeat' split
 all_goals first
  |exact h
  |exact arK h _ o
  |exact fun r hr=>h r (List.mem_of_mem_eraseIdx hr)
  |exact abI h (x:=uy (atR t _) o) (Zt h _) _
theorem al8 {v:Int} {s:ShR} {c:iM} {b:Nat} (h:∀r∈s.table,r.extra.length≤b):∀r∈(eD v s c).1.table,r.extra.length≤b:=by
 unfold eD
 repeat' split
 all_goals first
  |exact h
  |exact an_ h _
theorem ahH (x y:Int) (f:Nat→Nat→Int):∀k,∀r∈(vH (qI x y) f k).table,r.extra.length≤4
 |0=>fun r hr=>nomatch hr
 |k+1=>al8 (ahH x y f k)
theorem auB {n i:Nat} {r:au} (h:r.extra.length≤4):(AB n i r).extra.length≤4:=by
 unfold AB Js Ga;split<;>split<;>first
  |exact h
  |simp
theorem ab0 {n:Nat} {t:List au} (h:∀r∈t,r.extra.length≤4):∀k,∀r∈nJ n t k,r.extra.length≤4
 |0=>h
 |k+1=>abI (ab0 h k) (auB (Zt (ab0 h k) k)) k
theorem abM (x y:Int) (fz:Bool) (f:Nat→Nat→Int) (n:Nat):∀r∈(gJ x y fz f n).table,r.extra.length≤4:=ab0 (ahH x y f _) _
theorem aml (x y:Int) (fz:Bool) (f:Nat→Nat→Int) (n:Nat):∃b1 b2,encS 1 (gJ x y fz f n)=(b1,0)∧encS 2 (gJ x y fz f n)=(b2,0)∧
  pz 1 b1=(gJ x y fz f n,0)∧pz 2 b2=(gJ x y fz f n,0)∧pz 2 b1=(nV,11)∧pz 1 b2=(nV,11)∧b1≠b2∧b1.length≤2000000∧b2.length≤2000000:=by
 have hr:=Jq x y fz f n;obtain⟨b1,h1⟩:=UG (v:=1) (.inl rfl) hr (abM x y fz f n);obtain⟨b2,h2⟩:=UG (v:=2) (.inr rfl) hr (abM x y fz f n);refine⟨b1,b2,h1,h2,MU h1,MU h2,Ux (.inr rfl) (by omega) h1,Ux (.inl rfl) (by omega) h2,fun e=>?_,UF h1,UF h2⟩;have h3:=MU h1;rw[e]at h3;rw[Ux (.inl rfl) (by omega) h2]at h3;exact absurd (congrArg Prod.snd h3) (by show ¬(11=0);omega)
end Go.Proofs.YtodaapcohdpenaaGreat
