-- eB
import Derived.Test.YtodaapcohdpenaaGreatRows
import Derived.WalkKit
import Derived.ProofKit
import Derived.OpenShut
namespace Go.Proofs.YtodaapcohdpenaaGreat
open Go.RowKit
set_option maxHeartbeats 400000
theorem Jk {k:IntKind} {a b:Int} (h:a=b):Ending.returned (.int k a)= .returned (.int k b):=by rw[h]
theorem bC {a b:Bool} (h:a=b):Ending.returned (.bool a)= .returned (.bool b):=by rw[h]
def FV (c n:Int):Int:=(if c<0 then -(c+1)else c) % n
theorem abh (c n:Int) (h:0<n):0≤FV c n:=Int.emod_nonneg _ (by omega)
theorem arx (c n:Int) (h:0<n):FV c n<n:=Int.emod_lt_of_pos _ h
theorem agS {c n:Int} (h:c<0):(-(c+1)) % n=FV c n:=by unfold FV;rw[if_pos h]
theorem agT {c n:Int} (h:0≤c):c % n=FV c n:=by unfold FV;rw[if_neg (by omega)]
def f_ (c n:Int):Nat:=(FV c n).toNat
theorem uz (c n:Int) (h:0<n):(f_ c n:Int)<n:=by
 have h1:=abh c n h;have h2:=arx c n h;unfold f_;omega
theorem arv (c n:Int) (hn:0<n) (hn2:n≤9223372036854775807) (hc1: -9223372036854775808≤c) (hc2:c≤9223372036854775807) (w:World):
  Calls Tryz.prog 80 #[.int .i64 c,.int .i64 n] w fun e w'=>e= .returned (.int .i64 (FV c n))∧w=w':=by
 by_cases h:c<0
 ·go_enter Tryz.func80,Tryz.ntmps80;go_wp2;go_ret;exact⟨Jk (by rw[←agS h,←Int.neg_tmod,Int.tmod_eq_emod_of_nonneg (by omega)]),rfl⟩
 ·have h':0≤c:=by omega
  go_enter Tryz.func80,Tryz.ntmps80;go_wp2;go_ret;exact⟨Jk (agT h'),rfl⟩
theorem Ns (c n:Int) (hn:0<n) (hn2:n≤9223372036854775807) (hc:(Lit.int .i64 c).wf=true) (w:World):
  Calls Tryz.prog 80 #[.int .i64 c,.int .i64 n] w fun e w'=>e= .returned (.int .i64 (f_ c n))∧w=w':=by
 have hb:=bounds_i64 hc;refine(arv c n hn hn2 hb.1 hb.2 w).mono ?_;rintro e w' ⟨rfl,rfl⟩;exact⟨Jk (by have:=abh c n hn;unfold f_;omega),rfl⟩
theorem arw (c n:Int) (hn:0<n) (hn2:n≤9223372036854775807) (hc1: -9223372036854775808≤c) (hc2:c≤9223372036854775807) (w:World):
  Calls Tryz.prog 23 #[.int .i64 c,.int .i64 n] w fun e w'=>e= .returned (.int .i64 (FV c n))∧w=w':=by
 by_cases h:c<0
 ·go_enter Tryz.func23,Tryz.ntmps23;go_wp2;go_ret;exact⟨Jk (by rw[←agS h,←Int.neg_tmod,Int.tmod_eq_emod_of_nonneg (by omega)]),rfl⟩
 ·have h':0≤c:=by omega
  go_enter Tryz.func23,Tryz.ntmps23;go_wp2;go_ret;exact⟨Jk (agT h'),rfl⟩
theorem K6 (c n:Int) (hn:0<n) (hn2:n≤9223372036854775807) (hc:(Lit.int .i64 c).wf=true) (w:World):
  Calls Tryz.prog 23 #[.int .i64 c,.int .i64 n] w fun e w'=>e= .returned (.int .i64 (f_ c n))∧w=w':=by
 have hb:=bounds_i64 hc;refine(arw c n hn hn2 hb.1 hb.2 w).mono ?_;rintro e w' ⟨rfl,rfl⟩;exact⟨Jk (by have:=abh c n hn;unfold f_;omega),rfl⟩
end Go.Proofs.YtodaapcohdpenaaGreat
