-- eB
import Derived.Test.YtodaapcohdpenaaGreatGSq
import Derived.Test.YtodaapcohdpenaaGreatGShM
import Derived.Test.YtodaapcohdpenaaGreatGRp
import Derived.Test.YtodaapcohdpenaaGreatGTabD
namespace Go.Proofs.YtodaapcohdpenaaGreat
open Go.RowKit
set_option linter.unusedVariables false
def d_ (s:ShR) (x y:Value):Value:=.agg (aS s x y)
def ko (c:iM):Value:=.agg (aL c)
def Cv (s:ShR):Prop:=(Lit.int .i64 s.id).wf=true∧(Lit.int .i64 s.epoch).wf=true
def oH (c:iM):Prop:=(Lit.int .i64 c.fZ).wf=true∧(Lit.int .i64 c.epoch).wf=true∧(Lit.int .i64 c.client).wf=true∧(Lit.int .i64 c.id).wf=true∧Bo c.op
def bL (w:World) (s:ShR) (A:Option Addr) (n cap:Nat) (B:Option Addr) (m cm:Nat):Prop:=n≤cap∧m≤cm∧gW w A n s.table∧jr w B m s.cache
theorem bL.below {w w':World} {s:ShR} {A B:Option Addr} {n cap m cm:Nat} (h:bL w s A n cap B m cm) (hb:Below w.heap.size w w'):bL w' s A n cap B m cm:=⟨h.1,h.2.1,h.2.2.1.below hb,h.2.2.2.below hb⟩
theorem KU (w:World) {s:ShR} (h1:s.table=[]) (h2:s.cache=[]):bL w s none 0 0 none 0 0:=⟨Nat.le_refl _,Nat.le_refl _,by rw[h1];exact aa1 w none,by rw[h2];exact FQ w none⟩
def rC (n m:Nat):Prop:=n*88≤140737488351232∧m*72≤140737488351232
theorem bL.len {w:World} {s:ShR} {A B:Option Addr} {n cap m cm:Nat} (h:bL w s A n cap B m cm) (hr:fq s):n≤20∧m≤8:=⟨by have:=h.2.2.1.1;have:=hr.1.2.2;omega,by have:=h.2.2.2.1;have:=hr.2.1.2.2;omega⟩
theorem bL.sz {w:World} {s:ShR} {A B:Option Addr} {n cap m cm:Nat} (h:bL w s A n cap B m cm) (hr:fq s):rC n m:=by have:=h.len hr;exact⟨by omega,by omega⟩
def Ll (w:World) (R:ShR×dx×Bool) (e:Ending) (w':World):Prop:=
 ∃A n cap B m cm K k kc,e= .returned (.tuple #[d_ R.1 (.slice A n cap) (.slice B m cm),bX R.2.1 (.slice K k kc),.bool R.2.2])∧bL w' R.1 A n cap B m cm∧k≤kc∧dw w' K k R.2.1.keys∧Below w.heap.size w w'
def Oc (w:World) (R:ShR×Nat) (e:Ending) (w':World):Prop:=
 ∃A n cap B m cm,e= .returned (.tuple #[d_ R.1 (.slice A n cap) (.slice B m cm),.int .i64 R.2])∧bL w' R.1 A n cap B m cm∧Below w.heap.size w w'
def oM:Prop:=∀(s:ShR) (A B:Option Addr) (n cap m cm:Nat) (w:World),Cv s→bL w s A n cap B m cm→rC n m→
 Calls Tryz.prog 13 #[d_ s (.slice A n cap) (.slice B m cm)] w fun e w'=>e= .returned (.bool (rT s))∧Below w.heap.size w w'
def oZ:Prop:=∀(s t:ShR) (A B C D:Option Addr) (n cap m cm p cp q cq:Nat) (w:World),Cv s→Cv t→bL w s A n cap B m cm→rC n m→bL w t C p cp D q cq→rC p q→
 Calls Tryz.prog 15 #[d_ s (.slice A n cap) (.slice B m cm),d_ t (.slice C p cp) (.slice D q cq)] w fun e w'=>e= .returned (.bool (wO s t))∧Below w.heap.size w w'
def rX:Prop:=∀(v:Int) (s:ShR) (c:iM) (A B:Option Addr) (n cap m cm:Nat) (w:World),(Lit.int .i64 v).wf=true→Cv s→oH c→bL w s A n cap B m cm→rC n m→
 Calls Tryz.prog 18 #[.int .i64 v,d_ s (.slice A n cap) (.slice B m cm),ko c] w (Ll w (eD v s c))
def Dx:Prop:=∀(v:Int) (s:ShR) (A B:Option Addr) (n cap m cm:Nat) (w:World),(Lit.int .i64 v).wf=true→Cv s→bL w s A n cap B m cm→rC n m→
 Calls Tryz.prog 21 #[.int .i64 v,d_ s (.slice A n cap) (.slice B m cm)] w fun e w'=>e= .returned (.tuple #[.string (bs (encS v s).1),.int .i64 (encS v s).2])∧Below w.heap.size w w'
def Lm (N:Nat):Prop:=∀(v:Int) (b:ByteArray) (w:World),(Lit.int .i64 v).wf=true→b.size≤N→
 Calls Tryz.prog 24 #[.int .i64 v,.string b] w (Oc w (pz v b.data.toList))
def Dw:Prop:=Lm 2000000
def EI:Prop:=∀(v:Int) (s:ShR) (c:iM) (A B:Option Addr) (n cap m cm:Nat) (w:World),c.op.kind=2→(Lit.int .i64 v).wf=true→Cv s→oH c→bL w s A n cap B m cm→rC n m→
 Calls Tryz.prog 18 #[.int .i64 v,d_ s (.slice A n cap) (.slice B m cm),ko c] w (Ll w (eD v s c))
def tV:Prop:=∀(s:ShR) (A B:Option Addr) (n cap m cm:Nat) (w:World),Cv s→bL w s A n cap B m cm→rC n m→
 Calls Tryz.prog 21 #[.int .i64 2,d_ s (.slice A n cap) (.slice B m cm)] w fun e w'=>e= .returned (.tuple #[.string (bs (encS 2 s).1),.int .i64 (encS 2 s).2])∧Below w.heap.size w w'
def tQ:Prop:=∀(v:Int) (b:List UInt8) (w:World),(v=1∨v=2)→b.length≤2000000→(v=2∨b.head?≠some (mo v))→
 Calls Tryz.prog 24 #[.int .i64 v,.string (bs b)] w (Oc w (pz v b))
theorem rX.a (k:rX):EI:=fun v s c A B n cap m cm w _=>k v s c A B n cap m cm w
theorem Dx.a (k:Dx):tV:=fun s A B n cap m cm w=>k 2 s A B n cap m cm w (by decide)
theorem Dw.a (k:Dw):tQ:=fun v b w hv hb _=>by
 have q:=k v (bs b) w (by rcases hv with rfl|rfl<;>decide) (by rw[mR];exact hb);rw[CB]at q;exact q
theorem Ew {s:ShR} (h:fq s):Cv s:=by
 obtain⟨_,_,⟨h1,h2⟩,h3,h4⟩:=h;unfold bZ at h4;have f:∀z:Int,-9223372036854775808≤z→z≤9223372036854775807→(Lit.int .i64 z).wf=true:=fun z a b=>by
  rw[show(Lit.int .i64 z).wf=(decide (-9223372036854775808≤z)&&decide (z≤9223372036854775807))from rfl];simp;omega
 exact⟨f _ (by omega) (by omega),f _ (by omega) (by omega)⟩
end Go.Proofs.YtodaapcohdpenaaGreat
