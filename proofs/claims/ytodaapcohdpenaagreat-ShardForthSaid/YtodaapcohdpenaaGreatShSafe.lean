-- eB
import Derived.Test.YtodaapcohdpenaaGreatGSq
import Derived.Test.YtodaapcohdpenaaGreatSh
namespace Go.Proofs.YtodaapcohdpenaaGreat
open Go.RowKit
set_option linter.unusedVariables false
def Fj (W:World) (g j:Nat):Prop:=
 (∀o r x,o≤j→j<o+6→¬kH W g o r x)∧(∀o d E m c,o≤j→j<o+6→¬tT W g o d (.slice E m c))∧
 (∀o (t:Int) (d:ByteArray),o≤j→j<o+2→¬(W.cell? ⟨g,o,none⟩=some (.int .i64 t)∧W.cell? ⟨g,o+1,none⟩=some (.string d)))∧∀d:ByteArray,W.cell? ⟨g,j,none⟩≠some (.string d)
theorem xY {W:World} {g j b o:Nat} {y:Value} (h:¬(b=g∧o=j)):(W.setCell ⟨g,j,none⟩ y).cell? ⟨b,o,none⟩=W.cell? ⟨b,o,none⟩:=
 World.cell?_setCell_other _ _ _ _ (by intro e;cases e;exact h ⟨rfl,rfl⟩)
theorem VX (W:World) (g j:Nat) (y:Value):(W.setCell ⟨g,j,none⟩ y).heap.size=W.heap.size:=by simp
theorem dw.safe {W:World} {A:Option Addr} {n g j:Nat} {l:List ByteArray} (h:dw W A n l) (hs:Fj W g j) (y:Value):dw (W.setCell ⟨g,j,none⟩ y) A n l:=by
 obtain⟨h1,h2,h3,h4⟩:=h;refine⟨h1,h2,h3,fun hn=>?_⟩;obtain⟨b,off,e,hb,hc⟩:=h4 hn;refine⟨b,off,e,by rw[VX];exact hb,fun i hi=>?_⟩;have h5:=hc i hi;rw[xY (fun⟨e1,e2⟩=>by subst e1;rw[e2]at h5;exact hs.2.2.2 _ h5)];exact h5
theorem dh.safe {W:World} {A:Option Addr} {n g j:Nat} {l:List aT} (h:dh W A n l) (hs:Fj W g j) (y:Value):dh (W.setCell ⟨g,j,none⟩ y) A n l:=by
 obtain⟨h1,h2,h3,h4⟩:=h;refine⟨h1,h2,h3,fun hn=>?_⟩;obtain⟨b,off,e,hb,hc⟩:=h4 hn;refine⟨b,off,e,by rw[VX];exact hb,fun i hi=>?_⟩;have h5:=hc i hi;have hne:∀q,q<2→¬(b=g∧off+i*2+q=j):=fun q hq ⟨e1,e2⟩=>by
  subst e1;exact hs.2.2.1 (off+i*2) _ _ (by omega) (by omega) h5
 exact⟨(xY (hne 0 (by omega))).trans h5.1,(xY (hne 1 (by omega))).trans h5.2⟩
theorem gW.safe {W:World} {A:Option Addr} {n g j:Nat} {l:List au} (h:gW W A n l) (hs:Fj W g j) (y:Value):gW (W.setCell ⟨g,j,none⟩ y) A n l:=by
 obtain⟨h1,h2,h3,h4⟩:=h;refine⟨h1,h2,h3,fun hn=>?_⟩;obtain⟨b,off,e,hb,hc⟩:=h4 hn;refine⟨b,off,e,by rw[VX];exact hb,fun i hi=>?_⟩;obtain⟨E,m,c,h5,h6,h7⟩:=hc i hi;have hne:∀q,q<6→¬(b=g∧off+i*6+q=j):=fun q hq ⟨e1,e2⟩=>by
  subst e1;exact hs.1 (off+i*6) _ _ (by omega) (by omega) h5
 refine⟨E,m,c,?_,h6,h7.safe hs y⟩;obtain⟨k0,k1,k2,k3,k4,k5⟩:=h5;exact⟨(xY (hne 0 (by omega))).trans k0,(xY (hne 1 (by omega))).trans k1,(xY (hne 2 (by omega))).trans k2,(xY (hne 3 (by omega))).trans k3,(xY (hne 4 (by omega))).trans k4,(xY (hne 5 (by omega))).trans k5⟩
theorem jr.safe {W:World} {A:Option Addr} {n g j:Nat} {l:List aF} (h:jr W A n l) (hs:Fj W g j) (y:Value):jr (W.setCell ⟨g,j,none⟩ y) A n l:=by
 obtain⟨h1,h2,h3,h4⟩:=h;refine⟨h1,h2,h3,fun hn=>?_⟩;obtain⟨b,off,e,hb,hc⟩:=h4 hn;refine⟨b,off,e,by rw[VX];exact hb,fun i hi=>?_⟩;obtain⟨E,m,c,h5,h6,h7⟩:=hc i hi;have hne:∀q,q<6→¬(b=g∧off+i*6+q=j):=fun q hq ⟨e1,e2⟩=>by
  subst e1;exact hs.2.1 (off+i*6) _ _ _ _ (by omega) (by omega) h5
 refine⟨E,m,c,?_,h6,h7.safe hs y⟩;obtain⟨k0,k1,k2,k3,k4,k5⟩:=h5;exact⟨(xY (hne 0 (by omega))).trans k0,(xY (hne 1 (by omega))).trans k1,(xY (hne 2 (by omega))).trans k2,(xY (hne 3 (by omega))).trans k3,(xY (hne 4 (by omega))).trans k4,(xY (hne 5 (by omega))).trans k5⟩
theorem bL.safe {W:World} {s:ShR} {A B:Option Addr} {n cap m cm g j:Nat} (h:bL W s A n cap B m cm) (hs:Fj W g j) (y:Value):bL (W.setCell ⟨g,j,none⟩ y) s A n cap B m cm:=⟨h.1,h.2.1,h.2.2.1.safe hs y,h.2.2.2.safe hs y⟩
theorem BJ {W:World} {g:Nat} {a0 a1 a2 a3 a4 a7 a9:Int} {a5 a6 a8 zP:ByteArray} {T:TypeId} (h:aj W g (.cells #[.int .i64 a0,.int .i64 a1,.int .i64 a2,.int .i64 a3,.int .i64 a4,.string a5,.string a6,.int .i64 a7,.string a8,.int .i64 a9,.string zP] T (0,0))) {j:Nat} (hj:j<4):Fj W g j:=by
 have c0:=aj.cell h 0;have c1:=aj.cell h 1;have c2:=aj.cell h 2;have c3:=aj.cell h 3;have c4:=aj.cell h 4;have c5:=aj.cell h 5;have c6:=aj.cell h 6;have c7:=aj.cell h 7;have c8:=aj.cell h 8;simp only[aM]at c0 c1 c2 c3 c4 c5 c6 c7 c8;have key:∀o,o<5→∀d:ByteArray,W.cell? ⟨g,o,none⟩≠some (.string d):=fun o ho d e=>by
  rcases(by omega:o=0∨o=1∨o=2∨o=3∨o=4)with rfl|rfl|rfl|rfl|rfl
  ·rw[c0]at e;cases e
  ·rw[c1]at e;cases e
  ·rw[c2]at e;cases e
  ·rw[c3]at e;cases e
  ·rw[c4]at e;cases e
 refine⟨fun o r x ho _ hr=>key o (by omega) _ hr.1,fun o d E m c ho _ hr=>?_,fun o t d ho h2 ⟨_,e2⟩=>?_,fun d e=>key j (by omega) d e⟩
 ·obtain⟨_,_,_,_,k4,k5⟩:=hr;rcases(by omega:o=0∨o=1∨o=2∨o=3)with rfl|rfl|rfl|rfl
  ·exact key 4 (by omega) _ k4
  ·rw[c6]at k5;cases k5
  ·rw[c7]at k5;cases k5
  ·rw[c7]at k4;cases k4
 ·exact key (o+1) (by omega) _ e2
theorem BK {W:World} {g:Nat} {a0 a1:Int} {a2:Bool} {A B:Option Addr} {n cap m cm:Nat} {T:TypeId} (h:aj W g (.cells #[.int .i64 a0,.int .i64 a1,.bool a2,.slice A n cap,.slice B m cm] T (0,0))) (j:Nat):Fj W g j:=by
 have key:∀(o:Nat) (d:ByteArray),W.cell? ⟨g,o,none⟩≠some (.string d):=fun o d e=>by
  rw[aj.cell h o]at e;rcases o with _|_|_|_|_|o
  ·cases e
  ·cases e
  ·cases e
  ·cases e
  ·cases e
  ·simp at e
 exact⟨fun o r x _ _ hr=>key o _ hr.1,fun o d E m c _ _ hr=>key _ _ hr.2.2.2.2.1,fun o t d _ _ ⟨_,e2⟩=>key _ _ e2,fun d e=>key j d e⟩
end Go.Proofs.YtodaapcohdpenaaGreat
