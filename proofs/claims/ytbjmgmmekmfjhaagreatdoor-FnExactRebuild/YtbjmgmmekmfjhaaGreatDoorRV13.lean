/- RV13 -/
import Derived.Test.YtbjmgmmekmfjhaaGreatDoorRV7
import Derived.Test.YtbjmgmmekmfjhaaGreatDoorRV9
import Derived.Laws.StructEq
set_option maxHeartbeats 32000000
set_option maxRecDepth 100000
namespace Go.Proofs.YtbjmgmmekmfjhaaGreatDoor
open Go.RowKit
def num (n:Int):Bool:=decide (-1000000000<=n) && decide (n<=1000000000)
theorem sNum_any(n:Int)(w:World):Calls Tryz.prog 74 #[.int .i64 n] w fun e w'=>e=.returned (.bool (num n))/\w'=w:=by
 go_enter Tryz.func74,Tryz.ntmps74
 go_wp2_with fail
 refine (aO _ _ _ _).mono ?_;rintro e w1 ⟨rfl,rfl⟩;go_wp2;go_ret
 exact⟨rfl,rfl⟩
theorem ei(k n:Int)(s:ByteArray)(w:World) :
  Calls Tryz.prog 76 #[.agg #[.int .i64 k,.int .i64 n,.string s]] w fun e w'=>e=.returned (.agg #[.int .i64 k,.int .i64 n,.string s])/\Below w.heap.size w w':=by
 go_enter Tryz.func76,Tryz.ntmps76
 go_wp2;refine bodyPost_ret (v:=.agg #[.int .i64 k,.int .i64 n,.string s]) (by simp[results,Tryz.results76,go_sem]) rfl ⟨rfl,?_⟩;repeat (first | exact Below.refl _ _ | refine Below.alloc ?_ (by first | exact Nat.le_refl _ | (simp<;>omega)) _ | refine Below.setCell ?_ (by first | exact Nat.le_refl _ | (simp<;>omega)) _)
theorem ex(k n l:Int)(s:ByteArray)(w:World)(h0:0<=l)(h1:l<=1048576)(hs:s.size<=maxLen) :
  Calls Tryz.prog 70 #[.agg #[.int .i64 k,.int .i64 n,.string s],.int .i64 l] w fun e w'=>e=.returned (.int .i64 (if l<(s.size:Int) then -1 else l-(s.size:Int)))/\Below w.heap.size w w':=by
 unfold maxLen at hs;by_cases h:l<(s.size:Int)
 ·rw[if_pos h];go_enter Tryz.func70,Tryz.ntmps70
  go_wp2;go_ret
  exact⟨rfl,b_r.alloc n_l _⟩
 ·rw[if_neg h];go_enter Tryz.func70,Tryz.ntmps70
  go_wp2;go_ret
  exact⟨rfl,b_r.alloc n_l _⟩
def cm (k n:Int)(s:ByteArray):Value:=
 if k=0 then .iface 376 (.agg #[]) else if k=1 then .iface 271 (.int .i64 n) else if k=2 then .iface 377 (.int .i64 n) else if k=3 then .iface 378 (.string s)
 else if k=4 then .iface 273 (.int .i64 n) else if k=5 then .iface 379 (.int .i64 n) else .iface 380 (.int .i64 k)
theorem aU(k n:Int)(s:ByteArray)(w:World) :
  Calls Tryz.prog 252 #[.agg #[.int .i64 k,.int .i64 n,.string s]] w fun e w'=>e=.returned (cm k n s)/\Below w.heap.size w w':=by
 by_cases h0:k=0
 ·subst h0;go_enter Tryz.func252,Tryz.ntmps252
  go_wp2;go_ret
  exact⟨rfl,b_r.alloc n_l _⟩
 by_cases h1:k=1
 ·subst h1;go_enter Tryz.func252,Tryz.ntmps252
  go_wp2;go_ret
  exact⟨rfl,b_r.alloc n_l _⟩
 by_cases h2:k=2
 ·subst h2;go_enter Tryz.func252,Tryz.ntmps252
  go_wp2;go_ret
  exact⟨rfl,b_r.alloc n_l _⟩
 by_cases h3:k=3
 ·subst h3;go_enter Tryz.func252,Tryz.ntmps252
  go_wp2;go_ret
  exact⟨rfl,b_r.alloc n_l _⟩
 by_cases h4:k=4
 ·subst h4;go_enter Tryz.func252,Tryz.ntmps252
  go_wp2;go_ret
  exact⟨rfl,b_r.alloc n_l _⟩
 by_cases h5:k=5
 ·subst h5;go_enter Tryz.func252,Tryz.ntmps252
  go_wp2;go_ret
  exact⟨rfl,b_r.alloc n_l _⟩
 have e:cm k n s=.iface 380 (.int .i64 k):=by simp[cm,h0,h1,h2,h3,h4,h5]
 rw[e];clear e;have b0:(k == 0)=false:=by simpa using h0
 have b1:(k == 1)=false:=by simpa using h1
 have b2:(k == 2)=false:=by simpa using h2
 have b3:(k == 3)=false:=by simpa using h3
 have b4:(k == 4)=false:=by simpa using h4
 have b5:(k == 5)=false:=by simpa using h5
 clear h0 h1 h2 h3 h4 h5;go_enter Tryz.func252,Tryz.ntmps252
 go_wp2;go_ret
 exact⟨rfl,b_r.alloc n_l _⟩
theorem eY  (w:World):Calls Tryz.prog 328 #[.agg #[]] w fun e w'=>e=.returned (.agg #[.int .i64 0,.int .i64 0,.string ⟨#[]⟩])/\Below w.heap.size w w':=by
 go_enter Tryz.func328,Tryz.ntmps328
 go_wp2;refine bodyPost_ret (v:=.agg #[.int .i64 0,.int .i64 0,.string ⟨#[]⟩]) (by simp[results,Tryz.results328,go_sem]) rfl ⟨rfl,?_⟩;repeat (first | exact Below.refl _ _ | refine Below.alloc ?_ (by first | exact Nat.le_refl _ | (simp<;>omega)) _ | refine Below.setCell ?_ (by first | exact Nat.le_refl _ | (simp<;>omega)) _)
theorem eX(n:Int)(w:World):Calls Tryz.prog 185 #[.int .i64 n] w fun e w'=>e=.returned (.agg #[.int .i64 1,.int .i64 n,.string ⟨#[]⟩])/\Below w.heap.size w w':=by
 go_enter Tryz.func185,Tryz.ntmps185
 go_wp2;refine bodyPost_ret (v:=.agg #[.int .i64 1,.int .i64 n,.string ⟨#[]⟩]) (by simp[results,Tryz.results185,go_sem]) rfl ⟨rfl,?_⟩;repeat (first | exact Below.refl _ _ | refine Below.alloc ?_ (by first | exact Nat.le_refl _ | (simp<;>omega)) _ | refine Below.setCell ?_ (by first | exact Nat.le_refl _ | (simp<;>omega)) _)
theorem eM(n:Int)(w:World):Calls Tryz.prog 331 #[.int .i64 n] w fun e w'=>e=.returned (.agg #[.int .i64 2,.int .i64 n,.string ⟨#[]⟩])/\Below w.heap.size w w':=by
 go_enter Tryz.func331,Tryz.ntmps331
 go_wp2;refine bodyPost_ret (v:=.agg #[.int .i64 2,.int .i64 n,.string ⟨#[]⟩]) (by simp[results,Tryz.results331,go_sem]) rfl ⟨rfl,?_⟩;repeat (first | exact Below.refl _ _ | refine Below.alloc ?_ (by first | exact Nat.le_refl _ | (simp<;>omega)) _ | refine Below.setCell ?_ (by first | exact Nat.le_refl _ | (simp<;>omega)) _)
theorem eE(s:ByteArray)(w:World):Calls Tryz.prog 334 #[.string s] w fun e w'=>e=.returned (.agg #[.int .i64 3,.int .i64 0,.string s])/\Below w.heap.size w w':=by
 go_enter Tryz.func334,Tryz.ntmps334
 go_wp2;refine bodyPost_ret (v:=.agg #[.int .i64 3,.int .i64 0,.string s]) (by simp[results,Tryz.results334,go_sem]) rfl ⟨rfl,?_⟩;repeat (first | exact Below.refl _ _ | refine Below.alloc ?_ (by first | exact Nat.le_refl _ | (simp<;>omega)) _ | refine Below.setCell ?_ (by first | exact Nat.le_refl _ | (simp<;>omega)) _)
theorem fp(n:Int)(w:World):Calls Tryz.prog 186 #[.int .i64 n] w fun e w'=>e=.returned (.agg #[.int .i64 4,.int .i64 n,.string ⟨#[]⟩])/\Below w.heap.size w w':=by
 go_enter Tryz.func186,Tryz.ntmps186
 go_wp2;refine bodyPost_ret (v:=.agg #[.int .i64 4,.int .i64 n,.string ⟨#[]⟩]) (by simp[results,Tryz.results186,go_sem]) rfl ⟨rfl,?_⟩;repeat (first | exact Below.refl _ _ | refine Below.alloc ?_ (by first | exact Nat.le_refl _ | (simp<;>omega)) _ | refine Below.setCell ?_ (by first | exact Nat.le_refl _ | (simp<;>omega)) _)
theorem fB(n:Int)(w:World):Calls Tryz.prog 337 #[.int .i64 n] w fun e w'=>e=.returned (.agg #[.int .i64 5,.int .i64 n,.string ⟨#[]⟩])/\Below w.heap.size w w':=by
 go_enter Tryz.func337,Tryz.ntmps337
 go_wp2;refine bodyPost_ret (v:=.agg #[.int .i64 5,.int .i64 n,.string ⟨#[]⟩]) (by simp[results,Tryz.results337,go_sem]) rfl ⟨rfl,?_⟩;repeat (first | exact Below.refl _ _ | refine Below.alloc ?_ (by first | exact Nat.le_refl _ | (simp<;>omega)) _ | refine Below.setCell ?_ (by first | exact Nat.le_refl _ | (simp<;>omega)) _)
theorem ge(k:Int)(w:World):Calls Tryz.prog 340 #[.int .i64 k] w fun e w'=>e=.returned (.agg #[.int .i64 k,.int .i64 0,.string ⟨#[]⟩])/\Below w.heap.size w w':=by
 go_enter Tryz.func340,Tryz.ntmps340
 go_wp2;refine bodyPost_ret (v:=.agg #[.int .i64 k,.int .i64 0,.string ⟨#[]⟩]) (by simp[results,Tryz.results340,go_sem]) rfl ⟨rfl,?_⟩;repeat (first | exact Below.refl _ _ | refine Below.alloc ?_ (by first | exact Nat.le_refl _ | (simp<;>omega)) _ | refine Below.setCell ?_ (by first | exact Nat.le_refl _ | (simp<;>omega)) _)
theorem okIn_nil  (a1 a2:Option Addr)(nt c1 nf c2:Nat)(r:Int)(w:World):Calls Tryz.prog 326 #[.agg #[],.agg #[.slice a1 nt c1,.slice a2 nf c2],.int .i64 r] w fun e w'=>e=.returned (.bool (true))/\Below w.heap.size w w':=by
 go_enter Tryz.func326,Tryz.ntmps326
 go_wp2;go_ret
 exact⟨rfl,(b_r.alloc n_l _).alloc (by simp) _⟩
theorem okIn_int(n:Int)(a1 a2:Option Addr)(nt c1 nf c2:Nat)(r:Int)(w:World):Calls Tryz.prog 317 #[.int .i64 n,.agg #[.slice a1 nt c1,.slice a2 nf c2],.int .i64 r] w fun e w'=>e=.returned (.bool (num n))/\Below w.heap.size w w':=by
 have hB:Below w.heap.size w (w.alloc (.cells #[.slice a1 nt c1,.slice a2 nf c2] 36)):=b_r.alloc n_l _;by_cases h1:-1000000000<=n
 ·by_cases h2:n<=1000000000
  all_goals
   go_enter Tryz.func317,Tryz.ntmps317
   go_wp2;go_ret
   exact⟨ax (by rw[Bool.eq_iff_iff];simp[num];omega),hB⟩
 ·go_enter Tryz.func317,Tryz.ntmps317
  go_wp2;go_ret
  exact⟨ax (by rw[Bool.eq_iff_iff];simp[num];omega),hB⟩
theorem okIn_bool(n:Int)(a1 a2:Option Addr)(nt c1 nf c2:Nat)(r:Int)(w:World):Calls Tryz.prog 329 #[.int .i64 n,.agg #[.slice a1 nt c1,.slice a2 nf c2],.int .i64 r] w fun e w'=>e=.returned (.bool (decide (n=0) || decide (n=1)))/\Below w.heap.size w w':=by
 have hB:Below w.heap.size w (w.alloc (.cells #[.slice a1 nt c1,.slice a2 nf c2] 36)):=b_r.alloc n_l _;by_cases h1:n=0
 ·subst h1;go_enter Tryz.func329,Tryz.ntmps329
  go_wp2;go_ret
  exact⟨rfl,hB⟩
 ·have b1:(n == 0)=false:=by simpa using h1
  by_cases h2:n=1
  ·subst h2;go_enter Tryz.func329,Tryz.ntmps329
   go_wp2;go_ret
   exact⟨rfl,hB⟩
  ·have b2:(n == 1)=false:=by simpa using h2
   rw[show (decide (n=0) || decide (n=1))=false by simp[h1,h2]]
   clear h1 h2;go_enter Tryz.func329,Tryz.ntmps329
   go_wp2;go_ret
   exact⟨rfl,hB⟩
theorem okIn_text(s:ByteArray)(hs:s.size<=1048576)(a1 a2:Option Addr)(nt c1 nf c2:Nat)(r:Int)(w:World):Calls Tryz.prog 332 #[.string s,.agg #[.slice a1 nt c1,.slice a2 nf c2],.int .i64 r] w fun e w'=>e=.returned (.bool (ck s))/\Below w.heap.size w w':=by
 have hB:Below w.heap.size w (w.alloc (.cells #[.slice a1 nt c1,.slice a2 nf c2] 36)):=b_r.alloc n_l _;go_enter Tryz.func332,Tryz.ntmps332
 go_wp2_with fail
 refine (eL _ _ hs).mono ?_;rintro e w1 ⟨rfl,rfl⟩;go_wp2;go_ret
 exact⟨rfl,hB⟩
theorem okIn_rec(n:Int)(a1 a2:Option Addr)(nt c1 nf c2:Nat)(r:Int)(w:World):Calls Tryz.prog 318 #[.int .i64 n,.agg #[.slice a1 nt c1,.slice a2 nf c2],.int .i64 r] w fun e w'=>e=.returned (.bool (decide (0<=n) && decide (n<r)))/\Below w.heap.size w w':=by
 have hB:Below w.heap.size w (w.alloc (.cells #[.slice a1 nt c1,.slice a2 nf c2] 36)):=b_r.alloc n_l _;by_cases h1:0<=n
 ·by_cases h2:n<r
  all_goals
   go_enter Tryz.func318,Tryz.ntmps318
   go_wp2;go_ret
   exact⟨ax (by rw[Bool.eq_iff_iff];simp;omega),hB⟩
 ·go_enter Tryz.func318,Tryz.ntmps318
  go_wp2;go_ret
  exact⟨ax (by rw[Bool.eq_iff_iff];simp;omega),hB⟩
theorem okIn_fun(n:Int)(a1 a2:Option Addr)(nt c1 nf c2:Nat)(r:Int)(w:World):Calls Tryz.prog 335 #[.int .i64 n,.agg #[.slice a1 nt c1,.slice a2 nf c2],.int .i64 r] w fun e w'=>e=.returned (.bool (decide (0<=n) && decide (n<(nf:Int))))/\Below w.heap.size w w':=by
 have hB:Below w.heap.size w (w.alloc (.cells #[.slice a1 nt c1,.slice a2 nf c2] 36)):=b_r.alloc n_l _;by_cases h1:0<=n
 ·by_cases h2:n<(nf:Int)
  all_goals
   go_enter Tryz.func335,Tryz.ntmps335
   go_wp2;go_ret
   exact⟨ax (by rw[Bool.eq_iff_iff];simp;omega),hB⟩
 ·go_enter Tryz.func335,Tryz.ntmps335
  go_wp2;go_ret
  exact⟨ax (by rw[Bool.eq_iff_iff];simp;omega),hB⟩
theorem okIn_no(k:Int)(a1 a2:Option Addr)(nt c1 nf c2:Nat)(r:Int)(w:World):Calls Tryz.prog 338 #[.int .i64 k,.agg #[.slice a1 nt c1,.slice a2 nf c2],.int .i64 r] w fun e w'=>e=.returned (.bool (false))/\Below w.heap.size w w':=by
 have hB:Below w.heap.size w (w.alloc (.cells #[.slice a1 nt c1,.slice a2 nf c2] 36)):=b_r.alloc n_l _;go_enter Tryz.func338,Tryz.ntmps338
 go_wp2;go_ret
 exact⟨rfl,hB⟩
theorem aA(w:World)(C:Array Value)(t:TypeId)(g:Nat)(h:w.heap.size=g):(w.alloc (.cells C t)).heap[g]?=some (.cells C t (0,0)):=by
 subst h;exact al w C t
theorem bG{s:ByteArray}(h:s≠⟨#[]⟩):(([]:List UInt8) == s.toList)=false/\(s.toList == ([]:List UInt8))=false:=by
 have h':s.toList≠[]:=by
  intro e;apply h
  apply ByteArray.ext
  have:s.data.toList=[]:=by simpa[ByteArray.toList_eq] using e
  simpa using this
 constructor
 ·rw[beq_eq_false_iff_ne];exact Ne.symm h'
 ·rw[beq_eq_false_iff_ne];exact h'
theorem iIn_int_ne(n:Int)(s:ByteArray)(r:Int)(a1 a2:Option Addr)(nt c1 nf c2:Nat)(w:World)(hne:s≠⟨#[]⟩) :
  Calls Tryz.prog 180 #[.agg #[.slice a1 nt c1,.slice a2 nf c2],.agg #[.int .i64 1,.int .i64 n,.string s],.int .i64 r] w fun e w'=>e=.returned (.bool (false))/\Below w.heap.size w w':=by
 have hA:Below w.heap.size w ((w.alloc (.cells #[.slice a1 nt c1,.slice a2 nf c2] 36)).alloc (.cells #[.int .i64 1,.int .i64 n,.string s] 80)):=(b_r.alloc n_l _).alloc (by simp) _;have m1 : ∀ (v : Value) (W : World), (Go.method 522 271 v "loop.example/g00094/impl.value").run Tryz.prog W = .ok (185, v) W := fun _ _ => by kernel_rfl
 have m2 : ∀ (v : Value) (W : World), (Go.method 522 271 v "loop.example/g00094/impl.okIn").run Tryz.prog W = .ok (317, v) W := fun _ _ => by kernel_rfl
 have HA:Hid (Below w.heap.size w ((w.alloc (.cells #[.slice a1 nt c1,.slice a2 nf c2] 36)).alloc (.cells #[.int .i64 1,.int .i64 n,.string s] 80))):=hA;clear hA;go_enter Tryz.func180,Tryz.ntmps180
 go_wp2_with fail
 refine (aU _ _ _ _).mono ?_;rintro e w1 ⟨rfl,hb1⟩;rw[show cm 1 n s=.iface 271 (.int .i64 n) by rfl]
 have hx:=ah (au (al w #[.slice a1 nt c1,.slice a2 nf c2] 36) (.cells #[.int .i64 1,.int .i64 n,.string s] 80)) hb1;have hy:=ah (aA _ #[.int .i64 1,.int .i64 n,.string s] 80 (w.heap.size+1) (by simp)) hb1;have hB1:=HA.out.trans (hb1.mono HA.out.size);have HB:Hid (Below w.heap.size w w1):=hB1;have hZ:Hid (w.heap.size+2<=w1.heap.size):=ay hy
 have hS:∀w',Below (w.heap.size+2) w1 w'->w'.cell? ⟨w.heap.size,0,none⟩=some (.slice a1 nt c1)/\w'.cell? ⟨w.heap.size,1,none⟩=some (.slice a2 nf c2)/\w'.cell? ⟨w.heap.size+1,0,none⟩=some (.int .i64 1)/\w'.cell? ⟨w.heap.size+1,1,none⟩=some (.int .i64 n)/\w'.cell? ⟨w.heap.size+1,2,none⟩=some (.string s):=fun w' hb=>
  ⟨by rw[hb.cell (by simp),ae hx];rfl,by rw[hb.cell (by simp),ae hx];rfl,by rw[hb.cell (by simp),ae hy];rfl,by rw[hb.cell (by simp),ae hy];rfl,by rw[hb.cell (by simp),ae hy];rfl⟩
 have HS:Hid (∀w',Below (w.heap.size+2) w1 w'->w'.cell? ⟨w.heap.size,0,none⟩=some (.slice a1 nt c1)/\w'.cell? ⟨w.heap.size,1,none⟩=some (.slice a2 nf c2)/\w'.cell? ⟨w.heap.size+1,0,none⟩=some (.int .i64 1)/\w'.cell? ⟨w.heap.size+1,1,none⟩=some (.int .i64 n)/\w'.cell? ⟨w.heap.size+1,2,none⟩=some (.string s)):=hS;obtain⟨j0,j1,j2,j3,j4⟩:=hS w1 b_r;have q:Below w1.heap.size w1 w1.drew:=b_r.drew;clear hS hx hy hB1 hb1 HA;have e1:=(bG hne).1;have e2:=(bG hne).2;clear hne;go_wp2
 first | (go_region_with (first
   | (go_at_call 185;refine (eX _ _).mono ?_;rintro e wa ⟨rfl,kd⟩;have q:=q.trans (kd.mono q.size);obtain⟨j0,j1,j2,j3,j4⟩:=HS.out _ (q.mono hZ.out)))) | fail
 all_goals
  go_wp2;go_ret
  exact⟨rfl,HB.out.trans (q.mono HB.out.size)⟩
theorem iIn_int_no(n:Int)(r:Int)(a1 a2:Option Addr)(nt c1 nf c2:Nat)(w:World)(hb:(num n)=false) :
  Calls Tryz.prog 180 #[.agg #[.slice a1 nt c1,.slice a2 nf c2],.agg #[.int .i64 1,.int .i64 n,.string ⟨#[]⟩],.int .i64 r] w fun e w'=>e=.returned (.bool (false))/\Below w.heap.size w w':=by
 have hA:Below w.heap.size w ((w.alloc (.cells #[.slice a1 nt c1,.slice a2 nf c2] 36)).alloc (.cells #[.int .i64 1,.int .i64 n,.string ⟨#[]⟩] 80)):=(b_r.alloc n_l _).alloc (by simp) _;have m1 : ∀ (v : Value) (W : World), (Go.method 522 271 v "loop.example/g00094/impl.value").run Tryz.prog W = .ok (185, v) W := fun _ _ => by kernel_rfl
 have m2 : ∀ (v : Value) (W : World), (Go.method 522 271 v "loop.example/g00094/impl.okIn").run Tryz.prog W = .ok (317, v) W := fun _ _ => by kernel_rfl
 have HA:Hid (Below w.heap.size w ((w.alloc (.cells #[.slice a1 nt c1,.slice a2 nf c2] 36)).alloc (.cells #[.int .i64 1,.int .i64 n,.string ⟨#[]⟩] 80))):=hA;clear hA;go_enter Tryz.func180,Tryz.ntmps180
 go_wp2_with fail
 refine (aU _ _ _ _).mono ?_;rintro e w1 ⟨rfl,hb1⟩;rw[show cm 1 n ⟨#[]⟩=.iface 271 (.int .i64 n) by rfl]
 have hx:=ah (au (al w #[.slice a1 nt c1,.slice a2 nf c2] 36) (.cells #[.int .i64 1,.int .i64 n,.string ⟨#[]⟩] 80)) hb1;have hy:=ah (aA _ #[.int .i64 1,.int .i64 n,.string ⟨#[]⟩] 80 (w.heap.size+1) (by simp)) hb1;have hB1:=HA.out.trans (hb1.mono HA.out.size);have HB:Hid (Below w.heap.size w w1):=hB1;have hZ:Hid (w.heap.size+2<=w1.heap.size):=ay hy
 have hS:∀w',Below (w.heap.size+2) w1 w'->w'.cell? ⟨w.heap.size,0,none⟩=some (.slice a1 nt c1)/\w'.cell? ⟨w.heap.size,1,none⟩=some (.slice a2 nf c2)/\w'.cell? ⟨w.heap.size+1,0,none⟩=some (.int .i64 1)/\w'.cell? ⟨w.heap.size+1,1,none⟩=some (.int .i64 n)/\w'.cell? ⟨w.heap.size+1,2,none⟩=some (.string ⟨#[]⟩):=fun w' hb=>
  ⟨by rw[hb.cell (by simp),ae hx];rfl,by rw[hb.cell (by simp),ae hx];rfl,by rw[hb.cell (by simp),ae hy];rfl,by rw[hb.cell (by simp),ae hy];rfl,by rw[hb.cell (by simp),ae hy];rfl⟩
 have HS:Hid (∀w',Below (w.heap.size+2) w1 w'->w'.cell? ⟨w.heap.size,0,none⟩=some (.slice a1 nt c1)/\w'.cell? ⟨w.heap.size,1,none⟩=some (.slice a2 nf c2)/\w'.cell? ⟨w.heap.size+1,0,none⟩=some (.int .i64 1)/\w'.cell? ⟨w.heap.size+1,1,none⟩=some (.int .i64 n)/\w'.cell? ⟨w.heap.size+1,2,none⟩=some (.string ⟨#[]⟩)):=hS;obtain⟨j0,j1,j2,j3,j4⟩:=hS w1 b_r;have q:Below w1.heap.size w1 w1.drew:=b_r.drew;clear hS hx hy hB1 hb1 HA;go_wp2
 first | (go_region_with (first
   | (go_at_call 185;refine (eX _ _).mono ?_;rintro e wa ⟨rfl,kd⟩;have q:=q.trans (kd.mono q.size);obtain⟨j0,j1,j2,j3,j4⟩:=HS.out _ (q.mono hZ.out))
   | (go_at_call 317;refine (okIn_int _ _ _ _ _ _ _ _ _).mono ?_;rintro e wb ⟨rfl,kd⟩;have q:=q.trans (kd.mono q.size);obtain⟨j0,j1,j2,j3,j4⟩:=HS.out _ (q.mono hZ.out)))) | fail
 all_goals
  go_wp2;go_ret
  exact⟨rfl,HB.out.trans (q.mono HB.out.size)⟩
theorem iIn_int_yes(n:Int)(r:Int)(a1 a2:Option Addr)(nt c1 nf c2:Nat)(w:World)(hb:(num n)=true) :
  Calls Tryz.prog 180 #[.agg #[.slice a1 nt c1,.slice a2 nf c2],.agg #[.int .i64 1,.int .i64 n,.string ⟨#[]⟩],.int .i64 r] w fun e w'=>e=.returned (.bool (true))/\Below w.heap.size w w':=by
 have hA:Below w.heap.size w ((w.alloc (.cells #[.slice a1 nt c1,.slice a2 nf c2] 36)).alloc (.cells #[.int .i64 1,.int .i64 n,.string ⟨#[]⟩] 80)):=(b_r.alloc n_l _).alloc (by simp) _;have m1 : ∀ (v : Value) (W : World), (Go.method 522 271 v "loop.example/g00094/impl.value").run Tryz.prog W = .ok (185, v) W := fun _ _ => by kernel_rfl
 have m2 : ∀ (v : Value) (W : World), (Go.method 522 271 v "loop.example/g00094/impl.okIn").run Tryz.prog W = .ok (317, v) W := fun _ _ => by kernel_rfl
 have HA:Hid (Below w.heap.size w ((w.alloc (.cells #[.slice a1 nt c1,.slice a2 nf c2] 36)).alloc (.cells #[.int .i64 1,.int .i64 n,.string ⟨#[]⟩] 80))):=hA;clear hA;go_enter Tryz.func180,Tryz.ntmps180
 go_wp2_with fail
 refine (aU _ _ _ _).mono ?_;rintro e w1 ⟨rfl,hb1⟩;rw[show cm 1 n ⟨#[]⟩=.iface 271 (.int .i64 n) by rfl]
 have hx:=ah (au (al w #[.slice a1 nt c1,.slice a2 nf c2] 36) (.cells #[.int .i64 1,.int .i64 n,.string ⟨#[]⟩] 80)) hb1;have hy:=ah (aA _ #[.int .i64 1,.int .i64 n,.string ⟨#[]⟩] 80 (w.heap.size+1) (by simp)) hb1;have hB1:=HA.out.trans (hb1.mono HA.out.size);have HB:Hid (Below w.heap.size w w1):=hB1;have hZ:Hid (w.heap.size+2<=w1.heap.size):=ay hy
 have hS:∀w',Below (w.heap.size+2) w1 w'->w'.cell? ⟨w.heap.size,0,none⟩=some (.slice a1 nt c1)/\w'.cell? ⟨w.heap.size,1,none⟩=some (.slice a2 nf c2)/\w'.cell? ⟨w.heap.size+1,0,none⟩=some (.int .i64 1)/\w'.cell? ⟨w.heap.size+1,1,none⟩=some (.int .i64 n)/\w'.cell? ⟨w.heap.size+1,2,none⟩=some (.string ⟨#[]⟩):=fun w' hb=>
  ⟨by rw[hb.cell (by simp),ae hx];rfl,by rw[hb.cell (by simp),ae hx];rfl,by rw[hb.cell (by simp),ae hy];rfl,by rw[hb.cell (by simp),ae hy];rfl,by rw[hb.cell (by simp),ae hy];rfl⟩
 have HS:Hid (∀w',Below (w.heap.size+2) w1 w'->w'.cell? ⟨w.heap.size,0,none⟩=some (.slice a1 nt c1)/\w'.cell? ⟨w.heap.size,1,none⟩=some (.slice a2 nf c2)/\w'.cell? ⟨w.heap.size+1,0,none⟩=some (.int .i64 1)/\w'.cell? ⟨w.heap.size+1,1,none⟩=some (.int .i64 n)/\w'.cell? ⟨w.heap.size+1,2,none⟩=some (.string ⟨#[]⟩)):=hS;obtain⟨j0,j1,j2,j3,j4⟩:=hS w1 b_r;have q:Below w1.heap.size w1 w1.drew:=b_r.drew;clear hS hx hy hB1 hb1 HA;go_wp2
 first | (go_region_with (first
   | (go_at_call 185;refine (eX _ _).mono ?_;rintro e wa ⟨rfl,kd⟩;have q:=q.trans (kd.mono q.size);obtain⟨j0,j1,j2,j3,j4⟩:=HS.out _ (q.mono hZ.out))
   | (go_at_call 317;refine (okIn_int _ _ _ _ _ _ _ _ _).mono ?_;rintro e wb ⟨rfl,kd⟩;have q:=q.trans (kd.mono q.size);obtain⟨j0,j1,j2,j3,j4⟩:=HS.out _ (q.mono hZ.out)))) | fail
 all_goals
  go_wp2;go_ret
  exact⟨rfl,HB.out.trans (q.mono HB.out.size)⟩
theorem iIn_bool_ne(n:Int)(s:ByteArray)(r:Int)(a1 a2:Option Addr)(nt c1 nf c2:Nat)(w:World)(hne:s≠⟨#[]⟩) :
  Calls Tryz.prog 180 #[.agg #[.slice a1 nt c1,.slice a2 nf c2],.agg #[.int .i64 2,.int .i64 n,.string s],.int .i64 r] w fun e w'=>e=.returned (.bool (false))/\Below w.heap.size w w':=by
 have hA:Below w.heap.size w ((w.alloc (.cells #[.slice a1 nt c1,.slice a2 nf c2] 36)).alloc (.cells #[.int .i64 2,.int .i64 n,.string s] 80)):=(b_r.alloc n_l _).alloc (by simp) _;have m1 : ∀ (v : Value) (W : World), (Go.method 522 377 v "loop.example/g00094/impl.value").run Tryz.prog W = .ok (331, v) W := fun _ _ => by kernel_rfl
 have m2 : ∀ (v : Value) (W : World), (Go.method 522 377 v "loop.example/g00094/impl.okIn").run Tryz.prog W = .ok (329, v) W := fun _ _ => by kernel_rfl
 have HA:Hid (Below w.heap.size w ((w.alloc (.cells #[.slice a1 nt c1,.slice a2 nf c2] 36)).alloc (.cells #[.int .i64 2,.int .i64 n,.string s] 80))):=hA;clear hA;go_enter Tryz.func180,Tryz.ntmps180
 go_wp2_with fail
 refine (aU _ _ _ _).mono ?_;rintro e w1 ⟨rfl,hb1⟩;rw[show cm 2 n s=.iface 377 (.int .i64 n) by rfl]
 have hx:=ah (au (al w #[.slice a1 nt c1,.slice a2 nf c2] 36) (.cells #[.int .i64 2,.int .i64 n,.string s] 80)) hb1;have hy:=ah (aA _ #[.int .i64 2,.int .i64 n,.string s] 80 (w.heap.size+1) (by simp)) hb1;have hB1:=HA.out.trans (hb1.mono HA.out.size);have HB:Hid (Below w.heap.size w w1):=hB1;have hZ:Hid (w.heap.size+2<=w1.heap.size):=ay hy
 have hS:∀w',Below (w.heap.size+2) w1 w'->w'.cell? ⟨w.heap.size,0,none⟩=some (.slice a1 nt c1)/\w'.cell? ⟨w.heap.size,1,none⟩=some (.slice a2 nf c2)/\w'.cell? ⟨w.heap.size+1,0,none⟩=some (.int .i64 2)/\w'.cell? ⟨w.heap.size+1,1,none⟩=some (.int .i64 n)/\w'.cell? ⟨w.heap.size+1,2,none⟩=some (.string s):=fun w' hb=>
  ⟨by rw[hb.cell (by simp),ae hx];rfl,by rw[hb.cell (by simp),ae hx];rfl,by rw[hb.cell (by simp),ae hy];rfl,by rw[hb.cell (by simp),ae hy];rfl,by rw[hb.cell (by simp),ae hy];rfl⟩
 have HS:Hid (∀w',Below (w.heap.size+2) w1 w'->w'.cell? ⟨w.heap.size,0,none⟩=some (.slice a1 nt c1)/\w'.cell? ⟨w.heap.size,1,none⟩=some (.slice a2 nf c2)/\w'.cell? ⟨w.heap.size+1,0,none⟩=some (.int .i64 2)/\w'.cell? ⟨w.heap.size+1,1,none⟩=some (.int .i64 n)/\w'.cell? ⟨w.heap.size+1,2,none⟩=some (.string s)):=hS;obtain⟨j0,j1,j2,j3,j4⟩:=hS w1 b_r;have q:Below w1.heap.size w1 w1.drew:=b_r.drew;clear hS hx hy hB1 hb1 HA;have e1:=(bG hne).1;have e2:=(bG hne).2;clear hne;go_wp2
 first | (go_region_with (first
   | (go_at_call 331;refine (eM _ _).mono ?_;rintro e wa ⟨rfl,kd⟩;have q:=q.trans (kd.mono q.size);obtain⟨j0,j1,j2,j3,j4⟩:=HS.out _ (q.mono hZ.out)))) | fail
 all_goals
  go_wp2;go_ret
  exact⟨rfl,HB.out.trans (q.mono HB.out.size)⟩
theorem iIn_bool_no(n:Int)(r:Int)(a1 a2:Option Addr)(nt c1 nf c2:Nat)(w:World)(hb:(decide (n=0) || decide (n=1))=false) :
  Calls Tryz.prog 180 #[.agg #[.slice a1 nt c1,.slice a2 nf c2],.agg #[.int .i64 2,.int .i64 n,.string ⟨#[]⟩],.int .i64 r] w fun e w'=>e=.returned (.bool (false))/\Below w.heap.size w w':=by
 have hA:Below w.heap.size w ((w.alloc (.cells #[.slice a1 nt c1,.slice a2 nf c2] 36)).alloc (.cells #[.int .i64 2,.int .i64 n,.string ⟨#[]⟩] 80)):=(b_r.alloc n_l _).alloc (by simp) _;have m1 : ∀ (v : Value) (W : World), (Go.method 522 377 v "loop.example/g00094/impl.value").run Tryz.prog W = .ok (331, v) W := fun _ _ => by kernel_rfl
 have m2 : ∀ (v : Value) (W : World), (Go.method 522 377 v "loop.example/g00094/impl.okIn").run Tryz.prog W = .ok (329, v) W := fun _ _ => by kernel_rfl
 have HA:Hid (Below w.heap.size w ((w.alloc (.cells #[.slice a1 nt c1,.slice a2 nf c2] 36)).alloc (.cells #[.int .i64 2,.int .i64 n,.string ⟨#[]⟩] 80))):=hA;clear hA;go_enter Tryz.func180,Tryz.ntmps180
 go_wp2_with fail
 refine (aU _ _ _ _).mono ?_;rintro e w1 ⟨rfl,hb1⟩;rw[show cm 2 n ⟨#[]⟩=.iface 377 (.int .i64 n) by rfl]
 have hx:=ah (au (al w #[.slice a1 nt c1,.slice a2 nf c2] 36) (.cells #[.int .i64 2,.int .i64 n,.string ⟨#[]⟩] 80)) hb1;have hy:=ah (aA _ #[.int .i64 2,.int .i64 n,.string ⟨#[]⟩] 80 (w.heap.size+1) (by simp)) hb1;have hB1:=HA.out.trans (hb1.mono HA.out.size);have HB:Hid (Below w.heap.size w w1):=hB1;have hZ:Hid (w.heap.size+2<=w1.heap.size):=ay hy
 have hS:∀w',Below (w.heap.size+2) w1 w'->w'.cell? ⟨w.heap.size,0,none⟩=some (.slice a1 nt c1)/\w'.cell? ⟨w.heap.size,1,none⟩=some (.slice a2 nf c2)/\w'.cell? ⟨w.heap.size+1,0,none⟩=some (.int .i64 2)/\w'.cell? ⟨w.heap.size+1,1,none⟩=some (.int .i64 n)/\w'.cell? ⟨w.heap.size+1,2,none⟩=some (.string ⟨#[]⟩):=fun w' hb=>
  ⟨by rw[hb.cell (by simp),ae hx];rfl,by rw[hb.cell (by simp),ae hx];rfl,by rw[hb.cell (by simp),ae hy];rfl,by rw[hb.cell (by simp),ae hy];rfl,by rw[hb.cell (by simp),ae hy];rfl⟩
 have HS:Hid (∀w',Below (w.heap.size+2) w1 w'->w'.cell? ⟨w.heap.size,0,none⟩=some (.slice a1 nt c1)/\w'.cell? ⟨w.heap.size,1,none⟩=some (.slice a2 nf c2)/\w'.cell? ⟨w.heap.size+1,0,none⟩=some (.int .i64 2)/\w'.cell? ⟨w.heap.size+1,1,none⟩=some (.int .i64 n)/\w'.cell? ⟨w.heap.size+1,2,none⟩=some (.string ⟨#[]⟩)):=hS;obtain⟨j0,j1,j2,j3,j4⟩:=hS w1 b_r;have q:Below w1.heap.size w1 w1.drew:=b_r.drew;clear hS hx hy hB1 hb1 HA;go_wp2
 first | (go_region_with (first
   | (go_at_call 331;refine (eM _ _).mono ?_;rintro e wa ⟨rfl,kd⟩;have q:=q.trans (kd.mono q.size);obtain⟨j0,j1,j2,j3,j4⟩:=HS.out _ (q.mono hZ.out))
   | (go_at_call 329;refine (okIn_bool _ _ _ _ _ _ _ _ _).mono ?_;rintro e wb ⟨rfl,kd⟩;have q:=q.trans (kd.mono q.size);obtain⟨j0,j1,j2,j3,j4⟩:=HS.out _ (q.mono hZ.out)))) | fail
 all_goals
  go_wp2;go_ret
  exact⟨rfl,HB.out.trans (q.mono HB.out.size)⟩
theorem iIn_bool_yes(n:Int)(r:Int)(a1 a2:Option Addr)(nt c1 nf c2:Nat)(w:World)(hb:(decide (n=0) || decide (n=1))=true) :
  Calls Tryz.prog 180 #[.agg #[.slice a1 nt c1,.slice a2 nf c2],.agg #[.int .i64 2,.int .i64 n,.string ⟨#[]⟩],.int .i64 r] w fun e w'=>e=.returned (.bool (true))/\Below w.heap.size w w':=by
 have hA:Below w.heap.size w ((w.alloc (.cells #[.slice a1 nt c1,.slice a2 nf c2] 36)).alloc (.cells #[.int .i64 2,.int .i64 n,.string ⟨#[]⟩] 80)):=(b_r.alloc n_l _).alloc (by simp) _;have m1 : ∀ (v : Value) (W : World), (Go.method 522 377 v "loop.example/g00094/impl.value").run Tryz.prog W = .ok (331, v) W := fun _ _ => by kernel_rfl
 have m2 : ∀ (v : Value) (W : World), (Go.method 522 377 v "loop.example/g00094/impl.okIn").run Tryz.prog W = .ok (329, v) W := fun _ _ => by kernel_rfl
 have HA:Hid (Below w.heap.size w ((w.alloc (.cells #[.slice a1 nt c1,.slice a2 nf c2] 36)).alloc (.cells #[.int .i64 2,.int .i64 n,.string ⟨#[]⟩] 80))):=hA;clear hA;go_enter Tryz.func180,Tryz.ntmps180
 go_wp2_with fail
 refine (aU _ _ _ _).mono ?_;rintro e w1 ⟨rfl,hb1⟩;rw[show cm 2 n ⟨#[]⟩=.iface 377 (.int .i64 n) by rfl]
 have hx:=ah (au (al w #[.slice a1 nt c1,.slice a2 nf c2] 36) (.cells #[.int .i64 2,.int .i64 n,.string ⟨#[]⟩] 80)) hb1;have hy:=ah (aA _ #[.int .i64 2,.int .i64 n,.string ⟨#[]⟩] 80 (w.heap.size+1) (by simp)) hb1;have hB1:=HA.out.trans (hb1.mono HA.out.size);have HB:Hid (Below w.heap.size w w1):=hB1;have hZ:Hid (w.heap.size+2<=w1.heap.size):=ay hy
 have hS:∀w',Below (w.heap.size+2) w1 w'->w'.cell? ⟨w.heap.size,0,none⟩=some (.slice a1 nt c1)/\w'.cell? ⟨w.heap.size,1,none⟩=some (.slice a2 nf c2)/\w'.cell? ⟨w.heap.size+1,0,none⟩=some (.int .i64 2)/\w'.cell? ⟨w.heap.size+1,1,none⟩=some (.int .i64 n)/\w'.cell? ⟨w.heap.size+1,2,none⟩=some (.string ⟨#[]⟩):=fun w' hb=>
  ⟨by rw[hb.cell (by simp),ae hx];rfl,by rw[hb.cell (by simp),ae hx];rfl,by rw[hb.cell (by simp),ae hy];rfl,by rw[hb.cell (by simp),ae hy];rfl,by rw[hb.cell (by simp),ae hy];rfl⟩
 have HS:Hid (∀w',Below (w.heap.size+2) w1 w'->w'.cell? ⟨w.heap.size,0,none⟩=some (.slice a1 nt c1)/\w'.cell? ⟨w.heap.size,1,none⟩=some (.slice a2 nf c2)/\w'.cell? ⟨w.heap.size+1,0,none⟩=some (.int .i64 2)/\w'.cell? ⟨w.heap.size+1,1,none⟩=some (.int .i64 n)/\w'.cell? ⟨w.heap.size+1,2,none⟩=some (.string ⟨#[]⟩)):=hS;obtain⟨j0,j1,j2,j3,j4⟩:=hS w1 b_r;have q:Below w1.heap.size w1 w1.drew:=b_r.drew;clear hS hx hy hB1 hb1 HA;go_wp2
 first | (go_region_with (first
   | (go_at_call 331;refine (eM _ _).mono ?_;rintro e wa ⟨rfl,kd⟩;have q:=q.trans (kd.mono q.size);obtain⟨j0,j1,j2,j3,j4⟩:=HS.out _ (q.mono hZ.out))
   | (go_at_call 329;refine (okIn_bool _ _ _ _ _ _ _ _ _).mono ?_;rintro e wb ⟨rfl,kd⟩;have q:=q.trans (kd.mono q.size);obtain⟨j0,j1,j2,j3,j4⟩:=HS.out _ (q.mono hZ.out)))) | fail
 all_goals
  go_wp2;go_ret
  exact⟨rfl,HB.out.trans (q.mono HB.out.size)⟩
theorem iIn_rec_ne(n:Int)(s:ByteArray)(r:Int)(a1 a2:Option Addr)(nt c1 nf c2:Nat)(w:World)(hne:s≠⟨#[]⟩) :
  Calls Tryz.prog 180 #[.agg #[.slice a1 nt c1,.slice a2 nf c2],.agg #[.int .i64 4,.int .i64 n,.string s],.int .i64 r] w fun e w'=>e=.returned (.bool (false))/\Below w.heap.size w w':=by
 have hA:Below w.heap.size w ((w.alloc (.cells #[.slice a1 nt c1,.slice a2 nf c2] 36)).alloc (.cells #[.int .i64 4,.int .i64 n,.string s] 80)):=(b_r.alloc n_l _).alloc (by simp) _;have m1 : ∀ (v : Value) (W : World), (Go.method 522 273 v "loop.example/g00094/impl.value").run Tryz.prog W = .ok (186, v) W := fun _ _ => by kernel_rfl
 have m2 : ∀ (v : Value) (W : World), (Go.method 522 273 v "loop.example/g00094/impl.okIn").run Tryz.prog W = .ok (318, v) W := fun _ _ => by kernel_rfl
 have HA:Hid (Below w.heap.size w ((w.alloc (.cells #[.slice a1 nt c1,.slice a2 nf c2] 36)).alloc (.cells #[.int .i64 4,.int .i64 n,.string s] 80))):=hA;clear hA;go_enter Tryz.func180,Tryz.ntmps180
 go_wp2_with fail
 refine (aU _ _ _ _).mono ?_;rintro e w1 ⟨rfl,hb1⟩;rw[show cm 4 n s=.iface 273 (.int .i64 n) by rfl]
 have hx:=ah (au (al w #[.slice a1 nt c1,.slice a2 nf c2] 36) (.cells #[.int .i64 4,.int .i64 n,.string s] 80)) hb1;have hy:=ah (aA _ #[.int .i64 4,.int .i64 n,.string s] 80 (w.heap.size+1) (by simp)) hb1;have hB1:=HA.out.trans (hb1.mono HA.out.size);have HB:Hid (Below w.heap.size w w1):=hB1;have hZ:Hid (w.heap.size+2<=w1.heap.size):=ay hy
 have hS:∀w',Below (w.heap.size+2) w1 w'->w'.cell? ⟨w.heap.size,0,none⟩=some (.slice a1 nt c1)/\w'.cell? ⟨w.heap.size,1,none⟩=some (.slice a2 nf c2)/\w'.cell? ⟨w.heap.size+1,0,none⟩=some (.int .i64 4)/\w'.cell? ⟨w.heap.size+1,1,none⟩=some (.int .i64 n)/\w'.cell? ⟨w.heap.size+1,2,none⟩=some (.string s):=fun w' hb=>
  ⟨by rw[hb.cell (by simp),ae hx];rfl,by rw[hb.cell (by simp),ae hx];rfl,by rw[hb.cell (by simp),ae hy];rfl,by rw[hb.cell (by simp),ae hy];rfl,by rw[hb.cell (by simp),ae hy];rfl⟩
 have HS:Hid (∀w',Below (w.heap.size+2) w1 w'->w'.cell? ⟨w.heap.size,0,none⟩=some (.slice a1 nt c1)/\w'.cell? ⟨w.heap.size,1,none⟩=some (.slice a2 nf c2)/\w'.cell? ⟨w.heap.size+1,0,none⟩=some (.int .i64 4)/\w'.cell? ⟨w.heap.size+1,1,none⟩=some (.int .i64 n)/\w'.cell? ⟨w.heap.size+1,2,none⟩=some (.string s)):=hS;obtain⟨j0,j1,j2,j3,j4⟩:=hS w1 b_r;have q:Below w1.heap.size w1 w1.drew:=b_r.drew;clear hS hx hy hB1 hb1 HA;have e1:=(bG hne).1;have e2:=(bG hne).2;clear hne;go_wp2
 first | (go_region_with (first
   | (go_at_call 186;refine (fp _ _).mono ?_;rintro e wa ⟨rfl,kd⟩;have q:=q.trans (kd.mono q.size);obtain⟨j0,j1,j2,j3,j4⟩:=HS.out _ (q.mono hZ.out)))) | fail
 all_goals
  go_wp2;go_ret
  exact⟨rfl,HB.out.trans (q.mono HB.out.size)⟩
theorem iIn_rec_no(n:Int)(r:Int)(a1 a2:Option Addr)(nt c1 nf c2:Nat)(w:World)(hb:(decide (0<=n) && decide (n<r))=false) :
  Calls Tryz.prog 180 #[.agg #[.slice a1 nt c1,.slice a2 nf c2],.agg #[.int .i64 4,.int .i64 n,.string ⟨#[]⟩],.int .i64 r] w fun e w'=>e=.returned (.bool (false))/\Below w.heap.size w w':=by
 have hA:Below w.heap.size w ((w.alloc (.cells #[.slice a1 nt c1,.slice a2 nf c2] 36)).alloc (.cells #[.int .i64 4,.int .i64 n,.string ⟨#[]⟩] 80)):=(b_r.alloc n_l _).alloc (by simp) _;have m1 : ∀ (v : Value) (W : World), (Go.method 522 273 v "loop.example/g00094/impl.value").run Tryz.prog W = .ok (186, v) W := fun _ _ => by kernel_rfl
 have m2 : ∀ (v : Value) (W : World), (Go.method 522 273 v "loop.example/g00094/impl.okIn").run Tryz.prog W = .ok (318, v) W := fun _ _ => by kernel_rfl
 have HA:Hid (Below w.heap.size w ((w.alloc (.cells #[.slice a1 nt c1,.slice a2 nf c2] 36)).alloc (.cells #[.int .i64 4,.int .i64 n,.string ⟨#[]⟩] 80))):=hA;clear hA;go_enter Tryz.func180,Tryz.ntmps180
 go_wp2_with fail
 refine (aU _ _ _ _).mono ?_;rintro e w1 ⟨rfl,hb1⟩;rw[show cm 4 n ⟨#[]⟩=.iface 273 (.int .i64 n) by rfl]
 have hx:=ah (au (al w #[.slice a1 nt c1,.slice a2 nf c2] 36) (.cells #[.int .i64 4,.int .i64 n,.string ⟨#[]⟩] 80)) hb1;have hy:=ah (aA _ #[.int .i64 4,.int .i64 n,.string ⟨#[]⟩] 80 (w.heap.size+1) (by simp)) hb1;have hB1:=HA.out.trans (hb1.mono HA.out.size);have HB:Hid (Below w.heap.size w w1):=hB1;have hZ:Hid (w.heap.size+2<=w1.heap.size):=ay hy
 have hS:∀w',Below (w.heap.size+2) w1 w'->w'.cell? ⟨w.heap.size,0,none⟩=some (.slice a1 nt c1)/\w'.cell? ⟨w.heap.size,1,none⟩=some (.slice a2 nf c2)/\w'.cell? ⟨w.heap.size+1,0,none⟩=some (.int .i64 4)/\w'.cell? ⟨w.heap.size+1,1,none⟩=some (.int .i64 n)/\w'.cell? ⟨w.heap.size+1,2,none⟩=some (.string ⟨#[]⟩):=fun w' hb=>
  ⟨by rw[hb.cell (by simp),ae hx];rfl,by rw[hb.cell (by simp),ae hx];rfl,by rw[hb.cell (by simp),ae hy];rfl,by rw[hb.cell (by simp),ae hy];rfl,by rw[hb.cell (by simp),ae hy];rfl⟩
 have HS:Hid (∀w',Below (w.heap.size+2) w1 w'->w'.cell? ⟨w.heap.size,0,none⟩=some (.slice a1 nt c1)/\w'.cell? ⟨w.heap.size,1,none⟩=some (.slice a2 nf c2)/\w'.cell? ⟨w.heap.size+1,0,none⟩=some (.int .i64 4)/\w'.cell? ⟨w.heap.size+1,1,none⟩=some (.int .i64 n)/\w'.cell? ⟨w.heap.size+1,2,none⟩=some (.string ⟨#[]⟩)):=hS;obtain⟨j0,j1,j2,j3,j4⟩:=hS w1 b_r;have q:Below w1.heap.size w1 w1.drew:=b_r.drew;clear hS hx hy hB1 hb1 HA;go_wp2
 first | (go_region_with (first
   | (go_at_call 186;refine (fp _ _).mono ?_;rintro e wa ⟨rfl,kd⟩;have q:=q.trans (kd.mono q.size);obtain⟨j0,j1,j2,j3,j4⟩:=HS.out _ (q.mono hZ.out))
   | (go_at_call 318;refine (okIn_rec _ _ _ _ _ _ _ _ _).mono ?_;rintro e wb ⟨rfl,kd⟩;have q:=q.trans (kd.mono q.size);obtain⟨j0,j1,j2,j3,j4⟩:=HS.out _ (q.mono hZ.out)))) | fail
 all_goals
  go_wp2;go_ret
  exact⟨rfl,HB.out.trans (q.mono HB.out.size)⟩
theorem iIn_rec_yes(n:Int)(r:Int)(a1 a2:Option Addr)(nt c1 nf c2:Nat)(w:World)(hb:(decide (0<=n) && decide (n<r))=true) :
  Calls Tryz.prog 180 #[.agg #[.slice a1 nt c1,.slice a2 nf c2],.agg #[.int .i64 4,.int .i64 n,.string ⟨#[]⟩],.int .i64 r] w fun e w'=>e=.returned (.bool (true))/\Below w.heap.size w w':=by
 have hA:Below w.heap.size w ((w.alloc (.cells #[.slice a1 nt c1,.slice a2 nf c2] 36)).alloc (.cells #[.int .i64 4,.int .i64 n,.string ⟨#[]⟩] 80)):=(b_r.alloc n_l _).alloc (by simp) _;have m1 : ∀ (v : Value) (W : World), (Go.method 522 273 v "loop.example/g00094/impl.value").run Tryz.prog W = .ok (186, v) W := fun _ _ => by kernel_rfl
 have m2 : ∀ (v : Value) (W : World), (Go.method 522 273 v "loop.example/g00094/impl.okIn").run Tryz.prog W = .ok (318, v) W := fun _ _ => by kernel_rfl
 have HA:Hid (Below w.heap.size w ((w.alloc (.cells #[.slice a1 nt c1,.slice a2 nf c2] 36)).alloc (.cells #[.int .i64 4,.int .i64 n,.string ⟨#[]⟩] 80))):=hA;clear hA;go_enter Tryz.func180,Tryz.ntmps180
 go_wp2_with fail
 refine (aU _ _ _ _).mono ?_;rintro e w1 ⟨rfl,hb1⟩;rw[show cm 4 n ⟨#[]⟩=.iface 273 (.int .i64 n) by rfl]
 have hx:=ah (au (al w #[.slice a1 nt c1,.slice a2 nf c2] 36) (.cells #[.int .i64 4,.int .i64 n,.string ⟨#[]⟩] 80)) hb1;have hy:=ah (aA _ #[.int .i64 4,.int .i64 n,.string ⟨#[]⟩] 80 (w.heap.size+1) (by simp)) hb1;have hB1:=HA.out.trans (hb1.mono HA.out.size);have HB:Hid (Below w.heap.size w w1):=hB1;have hZ:Hid (w.heap.size+2<=w1.heap.size):=ay hy
 have hS:∀w',Below (w.heap.size+2) w1 w'->w'.cell? ⟨w.heap.size,0,none⟩=some (.slice a1 nt c1)/\w'.cell? ⟨w.heap.size,1,none⟩=some (.slice a2 nf c2)/\w'.cell? ⟨w.heap.size+1,0,none⟩=some (.int .i64 4)/\w'.cell? ⟨w.heap.size+1,1,none⟩=some (.int .i64 n)/\w'.cell? ⟨w.heap.size+1,2,none⟩=some (.string ⟨#[]⟩):=fun w' hb=>
  ⟨by rw[hb.cell (by simp),ae hx];rfl,by rw[hb.cell (by simp),ae hx];rfl,by rw[hb.cell (by simp),ae hy];rfl,by rw[hb.cell (by simp),ae hy];rfl,by rw[hb.cell (by simp),ae hy];rfl⟩
 have HS:Hid (∀w',Below (w.heap.size+2) w1 w'->w'.cell? ⟨w.heap.size,0,none⟩=some (.slice a1 nt c1)/\w'.cell? ⟨w.heap.size,1,none⟩=some (.slice a2 nf c2)/\w'.cell? ⟨w.heap.size+1,0,none⟩=some (.int .i64 4)/\w'.cell? ⟨w.heap.size+1,1,none⟩=some (.int .i64 n)/\w'.cell? ⟨w.heap.size+1,2,none⟩=some (.string ⟨#[]⟩)):=hS;obtain⟨j0,j1,j2,j3,j4⟩:=hS w1 b_r;have q:Below w1.heap.size w1 w1.drew:=b_r.drew;clear hS hx hy hB1 hb1 HA;go_wp2
 first | (go_region_with (first
   | (go_at_call 186;refine (fp _ _).mono ?_;rintro e wa ⟨rfl,kd⟩;have q:=q.trans (kd.mono q.size);obtain⟨j0,j1,j2,j3,j4⟩:=HS.out _ (q.mono hZ.out))
   | (go_at_call 318;refine (okIn_rec _ _ _ _ _ _ _ _ _).mono ?_;rintro e wb ⟨rfl,kd⟩;have q:=q.trans (kd.mono q.size);obtain⟨j0,j1,j2,j3,j4⟩:=HS.out _ (q.mono hZ.out)))) | fail
 all_goals
  go_wp2;go_ret
  exact⟨rfl,HB.out.trans (q.mono HB.out.size)⟩
theorem iIn_fun_ne(n:Int)(s:ByteArray)(r:Int)(a1 a2:Option Addr)(nt c1 nf c2:Nat)(w:World)(hne:s≠⟨#[]⟩) :
  Calls Tryz.prog 180 #[.agg #[.slice a1 nt c1,.slice a2 nf c2],.agg #[.int .i64 5,.int .i64 n,.string s],.int .i64 r] w fun e w'=>e=.returned (.bool (false))/\Below w.heap.size w w':=by
 have hA:Below w.heap.size w ((w.alloc (.cells #[.slice a1 nt c1,.slice a2 nf c2] 36)).alloc (.cells #[.int .i64 5,.int .i64 n,.string s] 80)):=(b_r.alloc n_l _).alloc (by simp) _;have m1 : ∀ (v : Value) (W : World), (Go.method 522 379 v "loop.example/g00094/impl.value").run Tryz.prog W = .ok (337, v) W := fun _ _ => by kernel_rfl
 have m2 : ∀ (v : Value) (W : World), (Go.method 522 379 v "loop.example/g00094/impl.okIn").run Tryz.prog W = .ok (335, v) W := fun _ _ => by kernel_rfl
 have HA:Hid (Below w.heap.size w ((w.alloc (.cells #[.slice a1 nt c1,.slice a2 nf c2] 36)).alloc (.cells #[.int .i64 5,.int .i64 n,.string s] 80))):=hA;clear hA;go_enter Tryz.func180,Tryz.ntmps180
 go_wp2_with fail
 refine (aU _ _ _ _).mono ?_;rintro e w1 ⟨rfl,hb1⟩;rw[show cm 5 n s=.iface 379 (.int .i64 n) by rfl]
 have hx:=ah (au (al w #[.slice a1 nt c1,.slice a2 nf c2] 36) (.cells #[.int .i64 5,.int .i64 n,.string s] 80)) hb1;have hy:=ah (aA _ #[.int .i64 5,.int .i64 n,.string s] 80 (w.heap.size+1) (by simp)) hb1;have hB1:=HA.out.trans (hb1.mono HA.out.size);have HB:Hid (Below w.heap.size w w1):=hB1;have hZ:Hid (w.heap.size+2<=w1.heap.size):=ay hy
 have hS:∀w',Below (w.heap.size+2) w1 w'->w'.cell? ⟨w.heap.size,0,none⟩=some (.slice a1 nt c1)/\w'.cell? ⟨w.heap.size,1,none⟩=some (.slice a2 nf c2)/\w'.cell? ⟨w.heap.size+1,0,none⟩=some (.int .i64 5)/\w'.cell? ⟨w.heap.size+1,1,none⟩=some (.int .i64 n)/\w'.cell? ⟨w.heap.size+1,2,none⟩=some (.string s):=fun w' hb=>
  ⟨by rw[hb.cell (by simp),ae hx];rfl,by rw[hb.cell (by simp),ae hx];rfl,by rw[hb.cell (by simp),ae hy];rfl,by rw[hb.cell (by simp),ae hy];rfl,by rw[hb.cell (by simp),ae hy];rfl⟩
 have HS:Hid (∀w',Below (w.heap.size+2) w1 w'->w'.cell? ⟨w.heap.size,0,none⟩=some (.slice a1 nt c1)/\w'.cell? ⟨w.heap.size,1,none⟩=some (.slice a2 nf c2)/\w'.cell? ⟨w.heap.size+1,0,none⟩=some (.int .i64 5)/\w'.cell? ⟨w.heap.size+1,1,none⟩=some (.int .i64 n)/\w'.cell? ⟨w.heap.size+1,2,none⟩=some (.string s)):=hS;obtain⟨j0,j1,j2,j3,j4⟩:=hS w1 b_r;have q:Below w1.heap.size w1 w1.drew:=b_r.drew;clear hS hx hy hB1 hb1 HA;have e1:=(bG hne).1;have e2:=(bG hne).2;clear hne;go_wp2
 first | (go_region_with (first
   | (go_at_call 337;refine (fB _ _).mono ?_;rintro e wa ⟨rfl,kd⟩;have q:=q.trans (kd.mono q.size);obtain⟨j0,j1,j2,j3,j4⟩:=HS.out _ (q.mono hZ.out)))) | fail
 all_goals
  go_wp2;go_ret
  exact⟨rfl,HB.out.trans (q.mono HB.out.size)⟩
theorem iIn_fun_no(n:Int)(r:Int)(a1 a2:Option Addr)(nt c1 nf c2:Nat)(w:World)(hb:(decide (0<=n) && decide (n<(nf:Int)))=false) :
  Calls Tryz.prog 180 #[.agg #[.slice a1 nt c1,.slice a2 nf c2],.agg #[.int .i64 5,.int .i64 n,.string ⟨#[]⟩],.int .i64 r] w fun e w'=>e=.returned (.bool (false))/\Below w.heap.size w w':=by
 have hA:Below w.heap.size w ((w.alloc (.cells #[.slice a1 nt c1,.slice a2 nf c2] 36)).alloc (.cells #[.int .i64 5,.int .i64 n,.string ⟨#[]⟩] 80)):=(b_r.alloc n_l _).alloc (by simp) _;have m1 : ∀ (v : Value) (W : World), (Go.method 522 379 v "loop.example/g00094/impl.value").run Tryz.prog W = .ok (337, v) W := fun _ _ => by kernel_rfl
 have m2 : ∀ (v : Value) (W : World), (Go.method 522 379 v "loop.example/g00094/impl.okIn").run Tryz.prog W = .ok (335, v) W := fun _ _ => by kernel_rfl
 have HA:Hid (Below w.heap.size w ((w.alloc (.cells #[.slice a1 nt c1,.slice a2 nf c2] 36)).alloc (.cells #[.int .i64 5,.int .i64 n,.string ⟨#[]⟩] 80))):=hA;clear hA;go_enter Tryz.func180,Tryz.ntmps180
 go_wp2_with fail
 refine (aU _ _ _ _).mono ?_;rintro e w1 ⟨rfl,hb1⟩;rw[show cm 5 n ⟨#[]⟩=.iface 379 (.int .i64 n) by rfl]
 have hx:=ah (au (al w #[.slice a1 nt c1,.slice a2 nf c2] 36) (.cells #[.int .i64 5,.int .i64 n,.string ⟨#[]⟩] 80)) hb1;have hy:=ah (aA _ #[.int .i64 5,.int .i64 n,.string ⟨#[]⟩] 80 (w.heap.size+1) (by simp)) hb1;have hB1:=HA.out.trans (hb1.mono HA.out.size);have HB:Hid (Below w.heap.size w w1):=hB1;have hZ:Hid (w.heap.size+2<=w1.heap.size):=ay hy
 have hS:∀w',Below (w.heap.size+2) w1 w'->w'.cell? ⟨w.heap.size,0,none⟩=some (.slice a1 nt c1)/\w'.cell? ⟨w.heap.size,1,none⟩=some (.slice a2 nf c2)/\w'.cell? ⟨w.heap.size+1,0,none⟩=some (.int .i64 5)/\w'.cell? ⟨w.heap.size+1,1,none⟩=some (.int .i64 n)/\w'.cell? ⟨w.heap.size+1,2,none⟩=some (.string ⟨#[]⟩):=fun w' hb=>
  ⟨by rw[hb.cell (by simp),ae hx];rfl,by rw[hb.cell (by simp),ae hx];rfl,by rw[hb.cell (by simp),ae hy];rfl,by rw[hb.cell (by simp),ae hy];rfl,by rw[hb.cell (by simp),ae hy];rfl⟩
 have HS:Hid (∀w',Below (w.heap.size+2) w1 w'->w'.cell? ⟨w.heap.size,0,none⟩=some (.slice a1 nt c1)/\w'.cell? ⟨w.heap.size,1,none⟩=some (.slice a2 nf c2)/\w'.cell? ⟨w.heap.size+1,0,none⟩=some (.int .i64 5)/\w'.cell? ⟨w.heap.size+1,1,none⟩=some (.int .i64 n)/\w'.cell? ⟨w.heap.size+1,2,none⟩=some (.string ⟨#[]⟩)):=hS;obtain⟨j0,j1,j2,j3,j4⟩:=hS w1 b_r;have q:Below w1.heap.size w1 w1.drew:=b_r.drew;clear hS hx hy hB1 hb1 HA;go_wp2
 first | (go_region_with (first
   | (go_at_call 337;refine (fB _ _).mono ?_;rintro e wa ⟨rfl,kd⟩;have q:=q.trans (kd.mono q.size);obtain⟨j0,j1,j2,j3,j4⟩:=HS.out _ (q.mono hZ.out))
   | (go_at_call 335;refine (okIn_fun _ _ _ _ _ _ _ _ _).mono ?_;rintro e wb ⟨rfl,kd⟩;have q:=q.trans (kd.mono q.size);obtain⟨j0,j1,j2,j3,j4⟩:=HS.out _ (q.mono hZ.out)))) | fail
 all_goals
  go_wp2;go_ret
  exact⟨rfl,HB.out.trans (q.mono HB.out.size)⟩
theorem iIn_fun_yes(n:Int)(r:Int)(a1 a2:Option Addr)(nt c1 nf c2:Nat)(w:World)(hb:(decide (0<=n) && decide (n<(nf:Int)))=true) :
  Calls Tryz.prog 180 #[.agg #[.slice a1 nt c1,.slice a2 nf c2],.agg #[.int .i64 5,.int .i64 n,.string ⟨#[]⟩],.int .i64 r] w fun e w'=>e=.returned (.bool (true))/\Below w.heap.size w w':=by
 have hA:Below w.heap.size w ((w.alloc (.cells #[.slice a1 nt c1,.slice a2 nf c2] 36)).alloc (.cells #[.int .i64 5,.int .i64 n,.string ⟨#[]⟩] 80)):=(b_r.alloc n_l _).alloc (by simp) _;have m1 : ∀ (v : Value) (W : World), (Go.method 522 379 v "loop.example/g00094/impl.value").run Tryz.prog W = .ok (337, v) W := fun _ _ => by kernel_rfl
 have m2 : ∀ (v : Value) (W : World), (Go.method 522 379 v "loop.example/g00094/impl.okIn").run Tryz.prog W = .ok (335, v) W := fun _ _ => by kernel_rfl
 have HA:Hid (Below w.heap.size w ((w.alloc (.cells #[.slice a1 nt c1,.slice a2 nf c2] 36)).alloc (.cells #[.int .i64 5,.int .i64 n,.string ⟨#[]⟩] 80))):=hA;clear hA;go_enter Tryz.func180,Tryz.ntmps180
 go_wp2_with fail
 refine (aU _ _ _ _).mono ?_;rintro e w1 ⟨rfl,hb1⟩;rw[show cm 5 n ⟨#[]⟩=.iface 379 (.int .i64 n) by rfl]
 have hx:=ah (au (al w #[.slice a1 nt c1,.slice a2 nf c2] 36) (.cells #[.int .i64 5,.int .i64 n,.string ⟨#[]⟩] 80)) hb1;have hy:=ah (aA _ #[.int .i64 5,.int .i64 n,.string ⟨#[]⟩] 80 (w.heap.size+1) (by simp)) hb1;have hB1:=HA.out.trans (hb1.mono HA.out.size);have HB:Hid (Below w.heap.size w w1):=hB1;have hZ:Hid (w.heap.size+2<=w1.heap.size):=ay hy
 have hS:∀w',Below (w.heap.size+2) w1 w'->w'.cell? ⟨w.heap.size,0,none⟩=some (.slice a1 nt c1)/\w'.cell? ⟨w.heap.size,1,none⟩=some (.slice a2 nf c2)/\w'.cell? ⟨w.heap.size+1,0,none⟩=some (.int .i64 5)/\w'.cell? ⟨w.heap.size+1,1,none⟩=some (.int .i64 n)/\w'.cell? ⟨w.heap.size+1,2,none⟩=some (.string ⟨#[]⟩):=fun w' hb=>
  ⟨by rw[hb.cell (by simp),ae hx];rfl,by rw[hb.cell (by simp),ae hx];rfl,by rw[hb.cell (by simp),ae hy];rfl,by rw[hb.cell (by simp),ae hy];rfl,by rw[hb.cell (by simp),ae hy];rfl⟩
 have HS:Hid (∀w',Below (w.heap.size+2) w1 w'->w'.cell? ⟨w.heap.size,0,none⟩=some (.slice a1 nt c1)/\w'.cell? ⟨w.heap.size,1,none⟩=some (.slice a2 nf c2)/\w'.cell? ⟨w.heap.size+1,0,none⟩=some (.int .i64 5)/\w'.cell? ⟨w.heap.size+1,1,none⟩=some (.int .i64 n)/\w'.cell? ⟨w.heap.size+1,2,none⟩=some (.string ⟨#[]⟩)):=hS;obtain⟨j0,j1,j2,j3,j4⟩:=hS w1 b_r;have q:Below w1.heap.size w1 w1.drew:=b_r.drew;clear hS hx hy hB1 hb1 HA;go_wp2
 first | (go_region_with (first
   | (go_at_call 337;refine (fB _ _).mono ?_;rintro e wa ⟨rfl,kd⟩;have q:=q.trans (kd.mono q.size);obtain⟨j0,j1,j2,j3,j4⟩:=HS.out _ (q.mono hZ.out))
   | (go_at_call 335;refine (okIn_fun _ _ _ _ _ _ _ _ _).mono ?_;rintro e wb ⟨rfl,kd⟩;have q:=q.trans (kd.mono q.size);obtain⟨j0,j1,j2,j3,j4⟩:=HS.out _ (q.mono hZ.out)))) | fail
 all_goals
  go_wp2;go_ret
  exact⟨rfl,HB.out.trans (q.mono HB.out.size)⟩
theorem iIn_nil_nn(n:Int)(s:ByteArray)(r:Int)(a1 a2:Option Addr)(nt c1 nf c2:Nat)(w:World)(hnn:n≠0) :
  Calls Tryz.prog 180 #[.agg #[.slice a1 nt c1,.slice a2 nf c2],.agg #[.int .i64 0,.int .i64 n,.string s],.int .i64 r] w fun e w'=>e=.returned (.bool (false))/\Below w.heap.size w w':=by
 have hA:Below w.heap.size w ((w.alloc (.cells #[.slice a1 nt c1,.slice a2 nf c2] 36)).alloc (.cells #[.int .i64 0,.int .i64 n,.string s] 80)):=(b_r.alloc n_l _).alloc (by simp) _;have m1 : ∀ (v : Value) (W : World), (Go.method 522 376 v "loop.example/g00094/impl.value").run Tryz.prog W = .ok (328, v) W := fun _ _ => by kernel_rfl
 have m2 : ∀ (v : Value) (W : World), (Go.method 522 376 v "loop.example/g00094/impl.okIn").run Tryz.prog W = .ok (326, v) W := fun _ _ => by kernel_rfl
 have HA:Hid (Below w.heap.size w ((w.alloc (.cells #[.slice a1 nt c1,.slice a2 nf c2] 36)).alloc (.cells #[.int .i64 0,.int .i64 n,.string s] 80))):=hA;clear hA;go_enter Tryz.func180,Tryz.ntmps180
 go_wp2_with fail
 refine (aU _ _ _ _).mono ?_;rintro e w1 ⟨rfl,hb1⟩;rw[show cm 0 n s=.iface 376 (.agg #[]) by rfl]
 have hx:=ah (au (al w #[.slice a1 nt c1,.slice a2 nf c2] 36) (.cells #[.int .i64 0,.int .i64 n,.string s] 80)) hb1;have hy:=ah (aA _ #[.int .i64 0,.int .i64 n,.string s] 80 (w.heap.size+1) (by simp)) hb1;have hB1:=HA.out.trans (hb1.mono HA.out.size);have HB:Hid (Below w.heap.size w w1):=hB1;have hZ:Hid (w.heap.size+2<=w1.heap.size):=ay hy
 have hS:∀w',Below (w.heap.size+2) w1 w'->w'.cell? ⟨w.heap.size,0,none⟩=some (.slice a1 nt c1)/\w'.cell? ⟨w.heap.size,1,none⟩=some (.slice a2 nf c2)/\w'.cell? ⟨w.heap.size+1,0,none⟩=some (.int .i64 0)/\w'.cell? ⟨w.heap.size+1,1,none⟩=some (.int .i64 n)/\w'.cell? ⟨w.heap.size+1,2,none⟩=some (.string s):=fun w' hb=>
  ⟨by rw[hb.cell (by simp),ae hx];rfl,by rw[hb.cell (by simp),ae hx];rfl,by rw[hb.cell (by simp),ae hy];rfl,by rw[hb.cell (by simp),ae hy];rfl,by rw[hb.cell (by simp),ae hy];rfl⟩
 have HS:Hid (∀w',Below (w.heap.size+2) w1 w'->w'.cell? ⟨w.heap.size,0,none⟩=some (.slice a1 nt c1)/\w'.cell? ⟨w.heap.size,1,none⟩=some (.slice a2 nf c2)/\w'.cell? ⟨w.heap.size+1,0,none⟩=some (.int .i64 0)/\w'.cell? ⟨w.heap.size+1,1,none⟩=some (.int .i64 n)/\w'.cell? ⟨w.heap.size+1,2,none⟩=some (.string s)):=hS;obtain⟨j0,j1,j2,j3,j4⟩:=hS w1 b_r;have q:Below w1.heap.size w1 w1.drew:=b_r.drew;clear hS hx hy hB1 hb1 HA;have e0:((0:Int) == n)=false:=by simpa using fun h=>hnn (h:(0:Int)=n).symm
 have e3:(n == (0:Int))=false:=by simpa using hnn
 clear hnn;go_wp2
 first | (go_region_with (first
   | (go_at_call 328;refine (eY _).mono ?_;rintro e wa ⟨rfl,kd⟩;have q:=q.trans (kd.mono q.size);obtain⟨j0,j1,j2,j3,j4⟩:=HS.out _ (q.mono hZ.out)))) | fail
 all_goals
  go_wp2;go_ret
  exact⟨rfl,HB.out.trans (q.mono HB.out.size)⟩
theorem iIn_nil_ne(s:ByteArray)(r:Int)(a1 a2:Option Addr)(nt c1 nf c2:Nat)(w:World)(hne:s≠⟨#[]⟩) :
  Calls Tryz.prog 180 #[.agg #[.slice a1 nt c1,.slice a2 nf c2],.agg #[.int .i64 0,.int .i64 0,.string s],.int .i64 r] w fun e w'=>e=.returned (.bool (false))/\Below w.heap.size w w':=by
 have hA:Below w.heap.size w ((w.alloc (.cells #[.slice a1 nt c1,.slice a2 nf c2] 36)).alloc (.cells #[.int .i64 0,.int .i64 0,.string s] 80)):=(b_r.alloc n_l _).alloc (by simp) _;have m1 : ∀ (v : Value) (W : World), (Go.method 522 376 v "loop.example/g00094/impl.value").run Tryz.prog W = .ok (328, v) W := fun _ _ => by kernel_rfl
 have m2 : ∀ (v : Value) (W : World), (Go.method 522 376 v "loop.example/g00094/impl.okIn").run Tryz.prog W = .ok (326, v) W := fun _ _ => by kernel_rfl
 have HA:Hid (Below w.heap.size w ((w.alloc (.cells #[.slice a1 nt c1,.slice a2 nf c2] 36)).alloc (.cells #[.int .i64 0,.int .i64 0,.string s] 80))):=hA;clear hA;go_enter Tryz.func180,Tryz.ntmps180
 go_wp2_with fail
 refine (aU _ _ _ _).mono ?_;rintro e w1 ⟨rfl,hb1⟩;rw[show cm 0 0 s=.iface 376 (.agg #[]) by rfl]
 have hx:=ah (au (al w #[.slice a1 nt c1,.slice a2 nf c2] 36) (.cells #[.int .i64 0,.int .i64 0,.string s] 80)) hb1;have hy:=ah (aA _ #[.int .i64 0,.int .i64 0,.string s] 80 (w.heap.size+1) (by simp)) hb1;have hB1:=HA.out.trans (hb1.mono HA.out.size);have HB:Hid (Below w.heap.size w w1):=hB1;have hZ:Hid (w.heap.size+2<=w1.heap.size):=ay hy
 have hS:∀w',Below (w.heap.size+2) w1 w'->w'.cell? ⟨w.heap.size,0,none⟩=some (.slice a1 nt c1)/\w'.cell? ⟨w.heap.size,1,none⟩=some (.slice a2 nf c2)/\w'.cell? ⟨w.heap.size+1,0,none⟩=some (.int .i64 0)/\w'.cell? ⟨w.heap.size+1,1,none⟩=some (.int .i64 0)/\w'.cell? ⟨w.heap.size+1,2,none⟩=some (.string s):=fun w' hb=>
  ⟨by rw[hb.cell (by simp),ae hx];rfl,by rw[hb.cell (by simp),ae hx];rfl,by rw[hb.cell (by simp),ae hy];rfl,by rw[hb.cell (by simp),ae hy];rfl,by rw[hb.cell (by simp),ae hy];rfl⟩
 have HS:Hid (∀w',Below (w.heap.size+2) w1 w'->w'.cell? ⟨w.heap.size,0,none⟩=some (.slice a1 nt c1)/\w'.cell? ⟨w.heap.size,1,none⟩=some (.slice a2 nf c2)/\w'.cell? ⟨w.heap.size+1,0,none⟩=some (.int .i64 0)/\w'.cell? ⟨w.heap.size+1,1,none⟩=some (.int .i64 0)/\w'.cell? ⟨w.heap.size+1,2,none⟩=some (.string s)):=hS;obtain⟨j0,j1,j2,j3,j4⟩:=hS w1 b_r;have q:Below w1.heap.size w1 w1.drew:=b_r.drew;clear hS hx hy hB1 hb1 HA;have e1:=(bG hne).1;have e2:=(bG hne).2;clear hne;go_wp2
 first | (go_region_with (first
   | (go_at_call 328;refine (eY _).mono ?_;rintro e wa ⟨rfl,kd⟩;have q:=q.trans (kd.mono q.size);obtain⟨j0,j1,j2,j3,j4⟩:=HS.out _ (q.mono hZ.out)))) | fail
 all_goals
  go_wp2;go_ret
  exact⟨rfl,HB.out.trans (q.mono HB.out.size)⟩
theorem iIn_nil_yes  (r:Int)(a1 a2:Option Addr)(nt c1 nf c2:Nat)(w:World) :
  Calls Tryz.prog 180 #[.agg #[.slice a1 nt c1,.slice a2 nf c2],.agg #[.int .i64 0,.int .i64 0,.string ⟨#[]⟩],.int .i64 r] w fun e w'=>e=.returned (.bool (true))/\Below w.heap.size w w':=by
 have hA:Below w.heap.size w ((w.alloc (.cells #[.slice a1 nt c1,.slice a2 nf c2] 36)).alloc (.cells #[.int .i64 0,.int .i64 0,.string ⟨#[]⟩] 80)):=(b_r.alloc n_l _).alloc (by simp) _;have m1 : ∀ (v : Value) (W : World), (Go.method 522 376 v "loop.example/g00094/impl.value").run Tryz.prog W = .ok (328, v) W := fun _ _ => by kernel_rfl
 have m2 : ∀ (v : Value) (W : World), (Go.method 522 376 v "loop.example/g00094/impl.okIn").run Tryz.prog W = .ok (326, v) W := fun _ _ => by kernel_rfl
 have HA:Hid (Below w.heap.size w ((w.alloc (.cells #[.slice a1 nt c1,.slice a2 nf c2] 36)).alloc (.cells #[.int .i64 0,.int .i64 0,.string ⟨#[]⟩] 80))):=hA;clear hA;go_enter Tryz.func180,Tryz.ntmps180
 go_wp2_with fail
 refine (aU _ _ _ _).mono ?_;rintro e w1 ⟨rfl,hb1⟩;rw[show cm 0 0 ⟨#[]⟩=.iface 376 (.agg #[]) by rfl]
 have hx:=ah (au (al w #[.slice a1 nt c1,.slice a2 nf c2] 36) (.cells #[.int .i64 0,.int .i64 0,.string ⟨#[]⟩] 80)) hb1;have hy:=ah (aA _ #[.int .i64 0,.int .i64 0,.string ⟨#[]⟩] 80 (w.heap.size+1) (by simp)) hb1;have hB1:=HA.out.trans (hb1.mono HA.out.size);have HB:Hid (Below w.heap.size w w1):=hB1;have hZ:Hid (w.heap.size+2<=w1.heap.size):=ay hy
 have hS:∀w',Below (w.heap.size+2) w1 w'->w'.cell? ⟨w.heap.size,0,none⟩=some (.slice a1 nt c1)/\w'.cell? ⟨w.heap.size,1,none⟩=some (.slice a2 nf c2)/\w'.cell? ⟨w.heap.size+1,0,none⟩=some (.int .i64 0)/\w'.cell? ⟨w.heap.size+1,1,none⟩=some (.int .i64 0)/\w'.cell? ⟨w.heap.size+1,2,none⟩=some (.string ⟨#[]⟩):=fun w' hb=>
  ⟨by rw[hb.cell (by simp),ae hx];rfl,by rw[hb.cell (by simp),ae hx];rfl,by rw[hb.cell (by simp),ae hy];rfl,by rw[hb.cell (by simp),ae hy];rfl,by rw[hb.cell (by simp),ae hy];rfl⟩
 have HS:Hid (∀w',Below (w.heap.size+2) w1 w'->w'.cell? ⟨w.heap.size,0,none⟩=some (.slice a1 nt c1)/\w'.cell? ⟨w.heap.size,1,none⟩=some (.slice a2 nf c2)/\w'.cell? ⟨w.heap.size+1,0,none⟩=some (.int .i64 0)/\w'.cell? ⟨w.heap.size+1,1,none⟩=some (.int .i64 0)/\w'.cell? ⟨w.heap.size+1,2,none⟩=some (.string ⟨#[]⟩)):=hS;obtain⟨j0,j1,j2,j3,j4⟩:=hS w1 b_r;have q:Below w1.heap.size w1 w1.drew:=b_r.drew;clear hS hx hy hB1 hb1 HA;go_wp2
 first | (go_region_with (first
   | (go_at_call 328;refine (eY _).mono ?_;rintro e wa ⟨rfl,kd⟩;have q:=q.trans (kd.mono q.size);obtain⟨j0,j1,j2,j3,j4⟩:=HS.out _ (q.mono hZ.out))
   | (go_at_call 326;refine (okIn_nil _ _ _ _ _ _ _ _).mono ?_;rintro e wb ⟨rfl,kd⟩;have q:=q.trans (kd.mono q.size);obtain⟨j0,j1,j2,j3,j4⟩:=HS.out _ (q.mono hZ.out)))) | fail
 all_goals
  go_wp2;go_ret
  exact⟨rfl,HB.out.trans (q.mono HB.out.size)⟩
theorem iIn_text_nn(n:Int)(s:ByteArray)(r:Int)(a1 a2:Option Addr)(nt c1 nf c2:Nat)(w:World)(hnn:n≠0) :
  Calls Tryz.prog 180 #[.agg #[.slice a1 nt c1,.slice a2 nf c2],.agg #[.int .i64 3,.int .i64 n,.string s],.int .i64 r] w fun e w'=>e=.returned (.bool (false))/\Below w.heap.size w w':=by
 have hA:Below w.heap.size w ((w.alloc (.cells #[.slice a1 nt c1,.slice a2 nf c2] 36)).alloc (.cells #[.int .i64 3,.int .i64 n,.string s] 80)):=(b_r.alloc n_l _).alloc (by simp) _;have m1 : ∀ (v : Value) (W : World), (Go.method 522 378 v "loop.example/g00094/impl.value").run Tryz.prog W = .ok (334, v) W := fun _ _ => by kernel_rfl
 have m2 : ∀ (v : Value) (W : World), (Go.method 522 378 v "loop.example/g00094/impl.okIn").run Tryz.prog W = .ok (332, v) W := fun _ _ => by kernel_rfl
 have HA:Hid (Below w.heap.size w ((w.alloc (.cells #[.slice a1 nt c1,.slice a2 nf c2] 36)).alloc (.cells #[.int .i64 3,.int .i64 n,.string s] 80))):=hA;clear hA;go_enter Tryz.func180,Tryz.ntmps180
 go_wp2_with fail
 refine (aU _ _ _ _).mono ?_;rintro e w1 ⟨rfl,hb1⟩;rw[show cm 3 n s=.iface 378 (.string s) by rfl]
 have hx:=ah (au (al w #[.slice a1 nt c1,.slice a2 nf c2] 36) (.cells #[.int .i64 3,.int .i64 n,.string s] 80)) hb1;have hy:=ah (aA _ #[.int .i64 3,.int .i64 n,.string s] 80 (w.heap.size+1) (by simp)) hb1;have hB1:=HA.out.trans (hb1.mono HA.out.size);have HB:Hid (Below w.heap.size w w1):=hB1;have hZ:Hid (w.heap.size+2<=w1.heap.size):=ay hy
 have hS:∀w',Below (w.heap.size+2) w1 w'->w'.cell? ⟨w.heap.size,0,none⟩=some (.slice a1 nt c1)/\w'.cell? ⟨w.heap.size,1,none⟩=some (.slice a2 nf c2)/\w'.cell? ⟨w.heap.size+1,0,none⟩=some (.int .i64 3)/\w'.cell? ⟨w.heap.size+1,1,none⟩=some (.int .i64 n)/\w'.cell? ⟨w.heap.size+1,2,none⟩=some (.string s):=fun w' hb=>
  ⟨by rw[hb.cell (by simp),ae hx];rfl,by rw[hb.cell (by simp),ae hx];rfl,by rw[hb.cell (by simp),ae hy];rfl,by rw[hb.cell (by simp),ae hy];rfl,by rw[hb.cell (by simp),ae hy];rfl⟩
 have HS:Hid (∀w',Below (w.heap.size+2) w1 w'->w'.cell? ⟨w.heap.size,0,none⟩=some (.slice a1 nt c1)/\w'.cell? ⟨w.heap.size,1,none⟩=some (.slice a2 nf c2)/\w'.cell? ⟨w.heap.size+1,0,none⟩=some (.int .i64 3)/\w'.cell? ⟨w.heap.size+1,1,none⟩=some (.int .i64 n)/\w'.cell? ⟨w.heap.size+1,2,none⟩=some (.string s)):=hS;obtain⟨j0,j1,j2,j3,j4⟩:=hS w1 b_r;have q:Below w1.heap.size w1 w1.drew:=b_r.drew;clear hS hx hy hB1 hb1 HA;have e0:((0:Int) == n)=false:=by simpa using fun h=>hnn (h:(0:Int)=n).symm
 have e3:(n == (0:Int))=false:=by simpa using hnn
 clear hnn;go_wp2
 first | (go_region_with (first
   | (go_at_call 334;refine (eE _ _).mono ?_;rintro e wa ⟨rfl,kd⟩;have q:=q.trans (kd.mono q.size);obtain⟨j0,j1,j2,j3,j4⟩:=HS.out _ (q.mono hZ.out)))) | fail
 all_goals
  go_wp2;go_ret
  exact⟨rfl,HB.out.trans (q.mono HB.out.size)⟩
theorem iIn_text_no(s:ByteArray)(r:Int)(a1 a2:Option Addr)(nt c1 nf c2:Nat)(w:World)(hsz:s.size<=1048576)(hb:ck s=false) :
  Calls Tryz.prog 180 #[.agg #[.slice a1 nt c1,.slice a2 nf c2],.agg #[.int .i64 3,.int .i64 0,.string s],.int .i64 r] w fun e w'=>e=.returned (.bool (false))/\Below w.heap.size w w':=by
 have hA:Below w.heap.size w ((w.alloc (.cells #[.slice a1 nt c1,.slice a2 nf c2] 36)).alloc (.cells #[.int .i64 3,.int .i64 0,.string s] 80)):=(b_r.alloc n_l _).alloc (by simp) _;have m1 : ∀ (v : Value) (W : World), (Go.method 522 378 v "loop.example/g00094/impl.value").run Tryz.prog W = .ok (334, v) W := fun _ _ => by kernel_rfl
 have m2 : ∀ (v : Value) (W : World), (Go.method 522 378 v "loop.example/g00094/impl.okIn").run Tryz.prog W = .ok (332, v) W := fun _ _ => by kernel_rfl
 have HA:Hid (Below w.heap.size w ((w.alloc (.cells #[.slice a1 nt c1,.slice a2 nf c2] 36)).alloc (.cells #[.int .i64 3,.int .i64 0,.string s] 80))):=hA;clear hA;go_enter Tryz.func180,Tryz.ntmps180
 go_wp2_with fail
 refine (aU _ _ _ _).mono ?_;rintro e w1 ⟨rfl,hb1⟩;rw[show cm 3 0 s=.iface 378 (.string s) by rfl]
 have hx:=ah (au (al w #[.slice a1 nt c1,.slice a2 nf c2] 36) (.cells #[.int .i64 3,.int .i64 0,.string s] 80)) hb1;have hy:=ah (aA _ #[.int .i64 3,.int .i64 0,.string s] 80 (w.heap.size+1) (by simp)) hb1;have hB1:=HA.out.trans (hb1.mono HA.out.size);have HB:Hid (Below w.heap.size w w1):=hB1;have hZ:Hid (w.heap.size+2<=w1.heap.size):=ay hy
 have hS:∀w',Below (w.heap.size+2) w1 w'->w'.cell? ⟨w.heap.size,0,none⟩=some (.slice a1 nt c1)/\w'.cell? ⟨w.heap.size,1,none⟩=some (.slice a2 nf c2)/\w'.cell? ⟨w.heap.size+1,0,none⟩=some (.int .i64 3)/\w'.cell? ⟨w.heap.size+1,1,none⟩=some (.int .i64 0)/\w'.cell? ⟨w.heap.size+1,2,none⟩=some (.string s):=fun w' hb=>
  ⟨by rw[hb.cell (by simp),ae hx];rfl,by rw[hb.cell (by simp),ae hx];rfl,by rw[hb.cell (by simp),ae hy];rfl,by rw[hb.cell (by simp),ae hy];rfl,by rw[hb.cell (by simp),ae hy];rfl⟩
 have HS:Hid (∀w',Below (w.heap.size+2) w1 w'->w'.cell? ⟨w.heap.size,0,none⟩=some (.slice a1 nt c1)/\w'.cell? ⟨w.heap.size,1,none⟩=some (.slice a2 nf c2)/\w'.cell? ⟨w.heap.size+1,0,none⟩=some (.int .i64 3)/\w'.cell? ⟨w.heap.size+1,1,none⟩=some (.int .i64 0)/\w'.cell? ⟨w.heap.size+1,2,none⟩=some (.string s)):=hS;obtain⟨j0,j1,j2,j3,j4⟩:=hS w1 b_r;have q:Below w1.heap.size w1 w1.drew:=b_r.drew;clear hS hx hy hB1 hb1 HA;go_wp2
 first | (go_region_with (first
   | (go_at_call 334;refine (eE _ _).mono ?_;rintro e wa ⟨rfl,kd⟩;have q:=q.trans (kd.mono q.size);obtain⟨j0,j1,j2,j3,j4⟩:=HS.out _ (q.mono hZ.out))
   | (go_at_call 332;refine (okIn_text _ hsz _ _ _ _ _ _ _ _).mono ?_;rintro e wb ⟨rfl,kd⟩;have q:=q.trans (kd.mono q.size);obtain⟨j0,j1,j2,j3,j4⟩:=HS.out _ (q.mono hZ.out)))) | fail
 all_goals
  go_wp2;go_ret
  exact⟨rfl,HB.out.trans (q.mono HB.out.size)⟩
theorem iIn_text_yes(s:ByteArray)(r:Int)(a1 a2:Option Addr)(nt c1 nf c2:Nat)(w:World)(hsz:s.size<=1048576)(hb:ck s=true) :
  Calls Tryz.prog 180 #[.agg #[.slice a1 nt c1,.slice a2 nf c2],.agg #[.int .i64 3,.int .i64 0,.string s],.int .i64 r] w fun e w'=>e=.returned (.bool (true))/\Below w.heap.size w w':=by
 have hA:Below w.heap.size w ((w.alloc (.cells #[.slice a1 nt c1,.slice a2 nf c2] 36)).alloc (.cells #[.int .i64 3,.int .i64 0,.string s] 80)):=(b_r.alloc n_l _).alloc (by simp) _;have m1 : ∀ (v : Value) (W : World), (Go.method 522 378 v "loop.example/g00094/impl.value").run Tryz.prog W = .ok (334, v) W := fun _ _ => by kernel_rfl
 have m2 : ∀ (v : Value) (W : World), (Go.method 522 378 v "loop.example/g00094/impl.okIn").run Tryz.prog W = .ok (332, v) W := fun _ _ => by kernel_rfl
 have HA:Hid (Below w.heap.size w ((w.alloc (.cells #[.slice a1 nt c1,.slice a2 nf c2] 36)).alloc (.cells #[.int .i64 3,.int .i64 0,.string s] 80))):=hA;clear hA;go_enter Tryz.func180,Tryz.ntmps180
 go_wp2_with fail
 refine (aU _ _ _ _).mono ?_;rintro e w1 ⟨rfl,hb1⟩;rw[show cm 3 0 s=.iface 378 (.string s) by rfl]
 have hx:=ah (au (al w #[.slice a1 nt c1,.slice a2 nf c2] 36) (.cells #[.int .i64 3,.int .i64 0,.string s] 80)) hb1;have hy:=ah (aA _ #[.int .i64 3,.int .i64 0,.string s] 80 (w.heap.size+1) (by simp)) hb1;have hB1:=HA.out.trans (hb1.mono HA.out.size);have HB:Hid (Below w.heap.size w w1):=hB1;have hZ:Hid (w.heap.size+2<=w1.heap.size):=ay hy
 have hS:∀w',Below (w.heap.size+2) w1 w'->w'.cell? ⟨w.heap.size,0,none⟩=some (.slice a1 nt c1)/\w'.cell? ⟨w.heap.size,1,none⟩=some (.slice a2 nf c2)/\w'.cell? ⟨w.heap.size+1,0,none⟩=some (.int .i64 3)/\w'.cell? ⟨w.heap.size+1,1,none⟩=some (.int .i64 0)/\w'.cell? ⟨w.heap.size+1,2,none⟩=some (.string s):=fun w' hb=>
  ⟨by rw[hb.cell (by simp),ae hx];rfl,by rw[hb.cell (by simp),ae hx];rfl,by rw[hb.cell (by simp),ae hy];rfl,by rw[hb.cell (by simp),ae hy];rfl,by rw[hb.cell (by simp),ae hy];rfl⟩
 have HS:Hid (∀w',Below (w.heap.size+2) w1 w'->w'.cell? ⟨w.heap.size,0,none⟩=some (.slice a1 nt c1)/\w'.cell? ⟨w.heap.size,1,none⟩=some (.slice a2 nf c2)/\w'.cell? ⟨w.heap.size+1,0,none⟩=some (.int .i64 3)/\w'.cell? ⟨w.heap.size+1,1,none⟩=some (.int .i64 0)/\w'.cell? ⟨w.heap.size+1,2,none⟩=some (.string s)):=hS;obtain⟨j0,j1,j2,j3,j4⟩:=hS w1 b_r;have q:Below w1.heap.size w1 w1.drew:=b_r.drew;clear hS hx hy hB1 hb1 HA;go_wp2
 first | (go_region_with (first
   | (go_at_call 334;refine (eE _ _).mono ?_;rintro e wa ⟨rfl,kd⟩;have q:=q.trans (kd.mono q.size);obtain⟨j0,j1,j2,j3,j4⟩:=HS.out _ (q.mono hZ.out))
   | (go_at_call 332;refine (okIn_text _ hsz _ _ _ _ _ _ _ _).mono ?_;rintro e wb ⟨rfl,kd⟩;have q:=q.trans (kd.mono q.size);obtain⟨j0,j1,j2,j3,j4⟩:=HS.out _ (q.mono hZ.out)))) | fail
 all_goals
  go_wp2;go_ret
  exact⟨rfl,HB.out.trans (q.mono HB.out.size)⟩
theorem iIn_no_nn(k n:Int)(s:ByteArray)(r:Int)(a1 a2:Option Addr)(nt c1 nf c2:Nat)(w:World)(h0:k≠0)(h1:k≠1)(h2:k≠2)(h3:k≠3)(h4:k≠4)(h5:k≠5)(hnn:n≠0) :
  Calls Tryz.prog 180 #[.agg #[.slice a1 nt c1,.slice a2 nf c2],.agg #[.int .i64 k,.int .i64 n,.string s],.int .i64 r] w fun e w'=>e=.returned (.bool (false))/\Below w.heap.size w w':=by
 have hA:Below w.heap.size w ((w.alloc (.cells #[.slice a1 nt c1,.slice a2 nf c2] 36)).alloc (.cells #[.int .i64 k,.int .i64 n,.string s] 80)):=(b_r.alloc n_l _).alloc (by simp) _;have m1 : ∀ (v : Value) (W : World), (Go.method 522 380 v "loop.example/g00094/impl.value").run Tryz.prog W = .ok (340, v) W := fun _ _ => by kernel_rfl
 have m2 : ∀ (v : Value) (W : World), (Go.method 522 380 v "loop.example/g00094/impl.okIn").run Tryz.prog W = .ok (338, v) W := fun _ _ => by kernel_rfl
 have HA:Hid (Below w.heap.size w ((w.alloc (.cells #[.slice a1 nt c1,.slice a2 nf c2] 36)).alloc (.cells #[.int .i64 k,.int .i64 n,.string s] 80))):=hA;clear hA;go_enter Tryz.func180,Tryz.ntmps180
 go_wp2_with fail
 refine (aU _ _ _ _).mono ?_;rintro e w1 ⟨rfl,hb1⟩;rw[show cm k n s=.iface 380 (.int .i64 k) by simp[cm,h0,h1,h2,h3,h4,h5]]
 have hx:=ah (au (al w #[.slice a1 nt c1,.slice a2 nf c2] 36) (.cells #[.int .i64 k,.int .i64 n,.string s] 80)) hb1;have hy:=ah (aA _ #[.int .i64 k,.int .i64 n,.string s] 80 (w.heap.size+1) (by simp)) hb1;have hB1:=HA.out.trans (hb1.mono HA.out.size);have HB:Hid (Below w.heap.size w w1):=hB1;have hZ:Hid (w.heap.size+2<=w1.heap.size):=ay hy
 have hS:∀w',Below (w.heap.size+2) w1 w'->w'.cell? ⟨w.heap.size,0,none⟩=some (.slice a1 nt c1)/\w'.cell? ⟨w.heap.size,1,none⟩=some (.slice a2 nf c2)/\w'.cell? ⟨w.heap.size+1,0,none⟩=some (.int .i64 k)/\w'.cell? ⟨w.heap.size+1,1,none⟩=some (.int .i64 n)/\w'.cell? ⟨w.heap.size+1,2,none⟩=some (.string s):=fun w' hb=>
  ⟨by rw[hb.cell (by simp),ae hx];rfl,by rw[hb.cell (by simp),ae hx];rfl,by rw[hb.cell (by simp),ae hy];rfl,by rw[hb.cell (by simp),ae hy];rfl,by rw[hb.cell (by simp),ae hy];rfl⟩
 have HS:Hid (∀w',Below (w.heap.size+2) w1 w'->w'.cell? ⟨w.heap.size,0,none⟩=some (.slice a1 nt c1)/\w'.cell? ⟨w.heap.size,1,none⟩=some (.slice a2 nf c2)/\w'.cell? ⟨w.heap.size+1,0,none⟩=some (.int .i64 k)/\w'.cell? ⟨w.heap.size+1,1,none⟩=some (.int .i64 n)/\w'.cell? ⟨w.heap.size+1,2,none⟩=some (.string s)):=hS;obtain⟨j0,j1,j2,j3,j4⟩:=hS w1 b_r;have q:Below w1.heap.size w1 w1.drew:=b_r.drew;clear hS hx hy hB1 hb1 HA;have e0:((0:Int) == n)=false:=by simpa using fun h=>hnn (h:(0:Int)=n).symm
 have e3:(n == (0:Int))=false:=by simpa using hnn
 clear hnn;clear h0 h1 h2 h3 h4 h5;go_wp2
 first | (go_region_with (first
   | (go_at_call 340;refine (ge _ _).mono ?_;rintro e wa ⟨rfl,kd⟩;have q:=q.trans (kd.mono q.size);obtain⟨j0,j1,j2,j3,j4⟩:=HS.out _ (q.mono hZ.out)))) | fail
 all_goals
  go_wp2;go_ret
  exact⟨rfl,HB.out.trans (q.mono HB.out.size)⟩
theorem iIn_no_ne(k:Int)(s:ByteArray)(r:Int)(a1 a2:Option Addr)(nt c1 nf c2:Nat)(w:World)(h0:k≠0)(h1:k≠1)(h2:k≠2)(h3:k≠3)(h4:k≠4)(h5:k≠5)(hne:s≠⟨#[]⟩) :
  Calls Tryz.prog 180 #[.agg #[.slice a1 nt c1,.slice a2 nf c2],.agg #[.int .i64 k,.int .i64 0,.string s],.int .i64 r] w fun e w'=>e=.returned (.bool (false))/\Below w.heap.size w w':=by
 have hA:Below w.heap.size w ((w.alloc (.cells #[.slice a1 nt c1,.slice a2 nf c2] 36)).alloc (.cells #[.int .i64 k,.int .i64 0,.string s] 80)):=(b_r.alloc n_l _).alloc (by simp) _;have m1 : ∀ (v : Value) (W : World), (Go.method 522 380 v "loop.example/g00094/impl.value").run Tryz.prog W = .ok (340, v) W := fun _ _ => by kernel_rfl
 have m2 : ∀ (v : Value) (W : World), (Go.method 522 380 v "loop.example/g00094/impl.okIn").run Tryz.prog W = .ok (338, v) W := fun _ _ => by kernel_rfl
 have HA:Hid (Below w.heap.size w ((w.alloc (.cells #[.slice a1 nt c1,.slice a2 nf c2] 36)).alloc (.cells #[.int .i64 k,.int .i64 0,.string s] 80))):=hA;clear hA;go_enter Tryz.func180,Tryz.ntmps180
 go_wp2_with fail
 refine (aU _ _ _ _).mono ?_;rintro e w1 ⟨rfl,hb1⟩;rw[show cm k 0 s=.iface 380 (.int .i64 k) by simp[cm,h0,h1,h2,h3,h4,h5]]
 have hx:=ah (au (al w #[.slice a1 nt c1,.slice a2 nf c2] 36) (.cells #[.int .i64 k,.int .i64 0,.string s] 80)) hb1;have hy:=ah (aA _ #[.int .i64 k,.int .i64 0,.string s] 80 (w.heap.size+1) (by simp)) hb1;have hB1:=HA.out.trans (hb1.mono HA.out.size);have HB:Hid (Below w.heap.size w w1):=hB1;have hZ:Hid (w.heap.size+2<=w1.heap.size):=ay hy
 have hS:∀w',Below (w.heap.size+2) w1 w'->w'.cell? ⟨w.heap.size,0,none⟩=some (.slice a1 nt c1)/\w'.cell? ⟨w.heap.size,1,none⟩=some (.slice a2 nf c2)/\w'.cell? ⟨w.heap.size+1,0,none⟩=some (.int .i64 k)/\w'.cell? ⟨w.heap.size+1,1,none⟩=some (.int .i64 0)/\w'.cell? ⟨w.heap.size+1,2,none⟩=some (.string s):=fun w' hb=>
  ⟨by rw[hb.cell (by simp),ae hx];rfl,by rw[hb.cell (by simp),ae hx];rfl,by rw[hb.cell (by simp),ae hy];rfl,by rw[hb.cell (by simp),ae hy];rfl,by rw[hb.cell (by simp),ae hy];rfl⟩
 have HS:Hid (∀w',Below (w.heap.size+2) w1 w'->w'.cell? ⟨w.heap.size,0,none⟩=some (.slice a1 nt c1)/\w'.cell? ⟨w.heap.size,1,none⟩=some (.slice a2 nf c2)/\w'.cell? ⟨w.heap.size+1,0,none⟩=some (.int .i64 k)/\w'.cell? ⟨w.heap.size+1,1,none⟩=some (.int .i64 0)/\w'.cell? ⟨w.heap.size+1,2,none⟩=some (.string s)):=hS;obtain⟨j0,j1,j2,j3,j4⟩:=hS w1 b_r;have q:Below w1.heap.size w1 w1.drew:=b_r.drew;clear hS hx hy hB1 hb1 HA;have e1:=(bG hne).1;have e2:=(bG hne).2;clear hne;clear h0 h1 h2 h3 h4 h5;go_wp2
 first | (go_region_with (first
   | (go_at_call 340;refine (ge _ _).mono ?_;rintro e wa ⟨rfl,kd⟩;have q:=q.trans (kd.mono q.size);obtain⟨j0,j1,j2,j3,j4⟩:=HS.out _ (q.mono hZ.out)))) | fail
 all_goals
  go_wp2;go_ret
  exact⟨rfl,HB.out.trans (q.mono HB.out.size)⟩
theorem iIn_no_no(k:Int)(r:Int)(a1 a2:Option Addr)(nt c1 nf c2:Nat)(w:World)(h0:k≠0)(h1:k≠1)(h2:k≠2)(h3:k≠3)(h4:k≠4)(h5:k≠5) :
  Calls Tryz.prog 180 #[.agg #[.slice a1 nt c1,.slice a2 nf c2],.agg #[.int .i64 k,.int .i64 0,.string ⟨#[]⟩],.int .i64 r] w fun e w'=>e=.returned (.bool (false))/\Below w.heap.size w w':=by
 have hA:Below w.heap.size w ((w.alloc (.cells #[.slice a1 nt c1,.slice a2 nf c2] 36)).alloc (.cells #[.int .i64 k,.int .i64 0,.string ⟨#[]⟩] 80)):=(b_r.alloc n_l _).alloc (by simp) _;have m1 : ∀ (v : Value) (W : World), (Go.method 522 380 v "loop.example/g00094/impl.value").run Tryz.prog W = .ok (340, v) W := fun _ _ => by kernel_rfl
 have m2 : ∀ (v : Value) (W : World), (Go.method 522 380 v "loop.example/g00094/impl.okIn").run Tryz.prog W = .ok (338, v) W := fun _ _ => by kernel_rfl
 have HA:Hid (Below w.heap.size w ((w.alloc (.cells #[.slice a1 nt c1,.slice a2 nf c2] 36)).alloc (.cells #[.int .i64 k,.int .i64 0,.string ⟨#[]⟩] 80))):=hA;clear hA;go_enter Tryz.func180,Tryz.ntmps180
 go_wp2_with fail
 refine (aU _ _ _ _).mono ?_;rintro e w1 ⟨rfl,hb1⟩;rw[show cm k 0 ⟨#[]⟩=.iface 380 (.int .i64 k) by simp[cm,h0,h1,h2,h3,h4,h5]]
 have hx:=ah (au (al w #[.slice a1 nt c1,.slice a2 nf c2] 36) (.cells #[.int .i64 k,.int .i64 0,.string ⟨#[]⟩] 80)) hb1;have hy:=ah (aA _ #[.int .i64 k,.int .i64 0,.string ⟨#[]⟩] 80 (w.heap.size+1) (by simp)) hb1;have hB1:=HA.out.trans (hb1.mono HA.out.size);have HB:Hid (Below w.heap.size w w1):=hB1;have hZ:Hid (w.heap.size+2<=w1.heap.size):=ay hy
 have hS:∀w',Below (w.heap.size+2) w1 w'->w'.cell? ⟨w.heap.size,0,none⟩=some (.slice a1 nt c1)/\w'.cell? ⟨w.heap.size,1,none⟩=some (.slice a2 nf c2)/\w'.cell? ⟨w.heap.size+1,0,none⟩=some (.int .i64 k)/\w'.cell? ⟨w.heap.size+1,1,none⟩=some (.int .i64 0)/\w'.cell? ⟨w.heap.size+1,2,none⟩=some (.string ⟨#[]⟩):=fun w' hb=>
  ⟨by rw[hb.cell (by simp),ae hx];rfl,by rw[hb.cell (by simp),ae hx];rfl,by rw[hb.cell (by simp),ae hy];rfl,by rw[hb.cell (by simp),ae hy];rfl,by rw[hb.cell (by simp),ae hy];rfl⟩
 have HS:Hid (∀w',Below (w.heap.size+2) w1 w'->w'.cell? ⟨w.heap.size,0,none⟩=some (.slice a1 nt c1)/\w'.cell? ⟨w.heap.size,1,none⟩=some (.slice a2 nf c2)/\w'.cell? ⟨w.heap.size+1,0,none⟩=some (.int .i64 k)/\w'.cell? ⟨w.heap.size+1,1,none⟩=some (.int .i64 0)/\w'.cell? ⟨w.heap.size+1,2,none⟩=some (.string ⟨#[]⟩)):=hS;obtain⟨j0,j1,j2,j3,j4⟩:=hS w1 b_r;have q:Below w1.heap.size w1 w1.drew:=b_r.drew;clear hS hx hy hB1 hb1 HA;clear h0 h1 h2 h3 h4 h5;go_wp2
 first | (go_region_with (first
   | (go_at_call 340;refine (ge _ _).mono ?_;rintro e wa ⟨rfl,kd⟩;have q:=q.trans (kd.mono q.size);obtain⟨j0,j1,j2,j3,j4⟩:=HS.out _ (q.mono hZ.out))
   | (go_at_call 338;refine (okIn_no _ _ _ _ _ _ _ _ _).mono ?_;rintro e wb ⟨rfl,kd⟩;have q:=q.trans (kd.mono q.size);obtain⟨j0,j1,j2,j3,j4⟩:=HS.out _ (q.mono hZ.out)))) | fail
 all_goals
  go_wp2;go_ret
  exact⟨rfl,HB.out.trans (q.mono HB.out.size)⟩
def valB (k n:Int)(s:ByteArray)(nf:Nat)(r:Int):Bool:=
 if k=0 then decide (n=0) && decide (s=⟨#[]⟩) else if k=1 then num n && decide (s=⟨#[]⟩) else if k=2 then (decide (n=0) || decide (n=1)) && decide (s=⟨#[]⟩)
 else if k=3 then decide (n=0) && ck s else if k=4 then (decide (0<=n) && decide (n<r)) && decide (s=⟨#[]⟩) else if k=5 then (decide (0<=n) && decide (n<(nf:Int))) && decide (s=⟨#[]⟩) else false
theorem fX(k n:Int)(s:ByteArray)(r:Int)(a1 a2:Option Addr)(nt c1 nf c2:Nat)(w:World)(hsz:s.size<=1048576) :
  Calls Tryz.prog 180 #[.agg #[.slice a1 nt c1,.slice a2 nf c2],.agg #[.int .i64 k,.int .i64 n,.string s],.int .i64 r] w fun e w'=>e=.returned (.bool (valB k n s nf r))/\Below w.heap.size w w':=by
 by_cases h0:k=0
 ·subst h0;by_cases hn:n=0
  ·subst hn;by_cases he:s=⟨#[]⟩
   ·subst he;rw[show valB 0 0 ⟨#[]⟩ nf r=true by simp[valB]]
    exact iIn_nil_yes r a1 a2 nt c1 nf c2 w
   ·rw[show valB 0 0 s nf r=false by simp[valB,he]]
    exact iIn_nil_ne s r a1 a2 nt c1 nf c2 w he
  ·rw[show valB 0 n s nf r=false by simp[valB,hn]]
   exact iIn_nil_nn n s r a1 a2 nt c1 nf c2 w hn
 by_cases h1:k=1
 ·subst h1;by_cases he:s=⟨#[]⟩
  ·subst he;by_cases hb:(num n)=true
   ·rw[show valB 1 n ⟨#[]⟩ nf r=true by simp only[valB];rw[hb];simp]
    exact iIn_int_yes n r a1 a2 nt c1 nf c2 w hb
   ·have hb':(num n)=false:=by simpa using hb
    rw[show valB 1 n ⟨#[]⟩ nf r=false by simp only[valB];rw[hb'];simp]
    exact iIn_int_no n r a1 a2 nt c1 nf c2 w hb'
  ·rw[show valB 1 n s nf r=false by simp[valB,he]]
   exact iIn_int_ne n s r a1 a2 nt c1 nf c2 w he
 by_cases h2:k=2
 ·subst h2;by_cases he:s=⟨#[]⟩
  ·subst he;by_cases hb:(decide (n=0) || decide (n=1))=true
   ·rw[show valB 2 n ⟨#[]⟩ nf r=true by simp only[valB];rw[hb];simp]
    exact iIn_bool_yes n r a1 a2 nt c1 nf c2 w hb
   ·have hb':(decide (n=0) || decide (n=1))=false:=by simpa using hb
    rw[show valB 2 n ⟨#[]⟩ nf r=false by simp only[valB];rw[hb'];simp]
    exact iIn_bool_no n r a1 a2 nt c1 nf c2 w hb'
  ·rw[show valB 2 n s nf r=false by simp[valB,he]]
   exact iIn_bool_ne n s r a1 a2 nt c1 nf c2 w he
 by_cases h3:k=3
 ·subst h3;by_cases hn:n=0
  ·subst hn;by_cases hb:ck s=true
   ·rw[show valB 3 0 s nf r=true by simp[valB,hb]]
    exact iIn_text_yes s r a1 a2 nt c1 nf c2 w hsz hb
   ·have hb':ck s=false:=by simpa using hb
    rw[show valB 3 0 s nf r=false by simp[valB,hb']]
    exact iIn_text_no s r a1 a2 nt c1 nf c2 w hsz hb'
  ·rw[show valB 3 n s nf r=false by simp[valB,hn]]
   exact iIn_text_nn n s r a1 a2 nt c1 nf c2 w hn
 by_cases h4:k=4
 ·subst h4;by_cases he:s=⟨#[]⟩
  ·subst he;by_cases hb:(decide (0<=n) && decide (n<r))=true
   ·rw[show valB 4 n ⟨#[]⟩ nf r=true by simp only[valB];rw[hb];simp]
    exact iIn_rec_yes n r a1 a2 nt c1 nf c2 w hb
   ·have hb':(decide (0<=n) && decide (n<r))=false:=by simpa using hb
    rw[show valB 4 n ⟨#[]⟩ nf r=false by simp only[valB];rw[hb'];simp]
    exact iIn_rec_no n r a1 a2 nt c1 nf c2 w hb'
  ·rw[show valB 4 n s nf r=false by simp[valB,he]]
   exact iIn_rec_ne n s r a1 a2 nt c1 nf c2 w he
 by_cases h5:k=5
 ·subst h5;by_cases he:s=⟨#[]⟩
  ·subst he;by_cases hb:(decide (0<=n) && decide (n<(nf:Int)))=true
   ·rw[show valB 5 n ⟨#[]⟩ nf r=true by simp only[valB];rw[hb];simp]
    exact iIn_fun_yes n r a1 a2 nt c1 nf c2 w hb
   ·have hb':(decide (0<=n) && decide (n<(nf:Int)))=false:=by simpa using hb
    rw[show valB 5 n ⟨#[]⟩ nf r=false by simp only[valB];rw[hb'];simp]
    exact iIn_fun_no n r a1 a2 nt c1 nf c2 w hb'
  ·rw[show valB 5 n s nf r=false by simp[valB,he]]
   exact iIn_fun_ne n s r a1 a2 nt c1 nf c2 w he
 rw[show valB k n s nf r=false by simp[valB,h0,h1,h2,h3,h4,h5]]
 by_cases hn:n=0
 ·subst hn;by_cases he:s=⟨#[]⟩
  ·subst he;exact iIn_no_no k r a1 a2 nt c1 nf c2 w h0 h1 h2 h3 h4 h5
  ·exact iIn_no_ne k s r a1 a2 nt c1 nf c2 w h0 h1 h2 h3 h4 h5 he
 ·exact iIn_no_nn k n s r a1 a2 nt c1 nf c2 w h0 h1 h2 h3 h4 h5 hn
theorem sOk_ne(k n:Int)(s:ByteArray)(r:Int)(a1 a2:Option Addr)(nt c1 nf c2:Nat)(w:World)(h3:k≠3)(hne:s≠⟨#[]⟩) :
  Calls Tryz.prog 120 #[.agg #[.slice a1 nt c1,.slice a2 nf c2],.agg #[.int .i64 k,.int .i64 n,.string s],.int .i64 r] w fun e w'=>e=.returned (.bool (false))/\Below w.heap.size w w':=by
 have hA:∀x y,Below w.heap.size w ((w.alloc x).alloc y):=fun _ _=>(b_r.alloc n_l _).alloc (by simp) _
 have e1:=(bG hne).1;have e2:=(bG hne).2;have e3:(s.toList != ([]:List UInt8))=true:=by simp[bne,e2]
 have b3:(k != 3)=true:=by simpa using h3
 clear hne h3;go_enter Tryz.func120,Tryz.ntmps120
 go_wp2;go_ret
 exact⟨rfl,hA _ _⟩
theorem sOk_nil(n:Int)(r:Int)(a1 a2:Option Addr)(nt c1 nf c2:Nat)(w:World) :
  Calls Tryz.prog 120 #[.agg #[.slice a1 nt c1,.slice a2 nf c2],.agg #[.int .i64 0,.int .i64 n,.string ⟨#[]⟩],.int .i64 r] w fun e w'=>e=.returned (.bool (decide (n=0)))/\Below w.heap.size w w':=by
 have hA:∀x y,Below w.heap.size w ((w.alloc x).alloc y):=fun _ _=>(b_r.alloc n_l _).alloc (by simp) _
 go_enter Tryz.func120,Tryz.ntmps120
 go_wp2;go_ret
 exact⟨ax (by rw[Bool.eq_iff_iff];simp),hA _ _⟩
theorem sOk_int(n:Int)(r:Int)(a1 a2:Option Addr)(nt c1 nf c2:Nat)(w:World) :
  Calls Tryz.prog 120 #[.agg #[.slice a1 nt c1,.slice a2 nf c2],.agg #[.int .i64 1,.int .i64 n,.string ⟨#[]⟩],.int .i64 r] w fun e w'=>e=.returned (.bool (num n))/\Below w.heap.size w w':=by
 have hA:∀x y,Below w.heap.size w ((w.alloc x).alloc y):=fun _ _=>(b_r.alloc n_l _).alloc (by simp) _
 go_enter Tryz.func120,Tryz.ntmps120
 go_wp2_with fail
 refine (sNum_any _ _).mono ?_;rintro e w1 ⟨rfl,rfl⟩;go_wp2;go_ret
 exact⟨rfl,hA _ _⟩
theorem sOk_bool(n:Int)(r:Int)(a1 a2:Option Addr)(nt c1 nf c2:Nat)(w:World) :
  Calls Tryz.prog 120 #[.agg #[.slice a1 nt c1,.slice a2 nf c2],.agg #[.int .i64 2,.int .i64 n,.string ⟨#[]⟩],.int .i64 r] w fun e w'=>e=.returned (.bool (decide (n=0) || decide (n=1)))/\Below w.heap.size w w':=by
 have hA:∀x y,Below w.heap.size w ((w.alloc x).alloc y):=fun _ _=>(b_r.alloc n_l _).alloc (by simp) _
 go_enter Tryz.func120,Tryz.ntmps120
 go_wp2_with fail
 refine (aO _ _ _ _).mono ?_;rintro e w1 ⟨rfl,rfl⟩;go_wp2;go_ret
 exact⟨ax (by rw[Bool.eq_iff_iff];simp;omega),hA _ _⟩
theorem sOk_text0(s:ByteArray)(r:Int)(a1 a2:Option Addr)(nt c1 nf c2:Nat)(w:World)(hsz:s.size<=1048576) :
  Calls Tryz.prog 120 #[.agg #[.slice a1 nt c1,.slice a2 nf c2],.agg #[.int .i64 3,.int .i64 0,.string s],.int .i64 r] w fun e w'=>e=.returned (.bool (ck s))/\Below w.heap.size w w':=by
 have hA:∀x y,Below w.heap.size w ((w.alloc x).alloc y):=fun _ _=>(b_r.alloc n_l _).alloc (by simp) _
 go_enter Tryz.func120,Tryz.ntmps120
 go_wp2_with fail
 refine (dW _ _ hsz).mono ?_;rintro e w1 ⟨rfl,rfl⟩;go_wp2;go_ret
 exact⟨rfl,hA _ _⟩
theorem sOk_textn(n:Int)(s:ByteArray)(r:Int)(a1 a2:Option Addr)(nt c1 nf c2:Nat)(w:World)(hn:n≠0) :
  Calls Tryz.prog 120 #[.agg #[.slice a1 nt c1,.slice a2 nf c2],.agg #[.int .i64 3,.int .i64 n,.string s],.int .i64 r] w fun e w'=>e=.returned (.bool (false))/\Below w.heap.size w w':=by
 have hA:∀x y,Below w.heap.size w ((w.alloc x).alloc y):=fun _ _=>(b_r.alloc n_l _).alloc (by simp) _
 have b0:(n == 0)=false:=by simpa using hn
 clear hn;go_enter Tryz.func120,Tryz.ntmps120
 go_wp2;go_ret
 exact⟨rfl,hA _ _⟩
theorem sOk_rec(n:Int)(r:Int)(a1 a2:Option Addr)(nt c1 nf c2:Nat)(w:World) :
  Calls Tryz.prog 120 #[.agg #[.slice a1 nt c1,.slice a2 nf c2],.agg #[.int .i64 4,.int .i64 n,.string ⟨#[]⟩],.int .i64 r] w fun e w'=>e=.returned (.bool (decide (0<=n) && decide (n<r)))/\Below w.heap.size w w':=by
 have hA:∀x y,Below w.heap.size w ((w.alloc x).alloc y):=fun _ _=>(b_r.alloc n_l _).alloc (by simp) _
 by_cases h1:0<=n
 ·by_cases h2:n<r
  all_goals
   go_enter Tryz.func120,Tryz.ntmps120
   go_wp2;go_ret
   exact⟨ax (by rw[Bool.eq_iff_iff];simp;omega),hA _ _⟩
 ·go_enter Tryz.func120,Tryz.ntmps120
  go_wp2;go_ret
  exact⟨ax (by rw[Bool.eq_iff_iff];simp;omega),hA _ _⟩
theorem sOk_fun(n:Int)(r:Int)(a1 a2:Option Addr)(nt c1 nf c2:Nat)(w:World)(hnf:nf<=1048576) :
  Calls Tryz.prog 120 #[.agg #[.slice a1 nt c1,.slice a2 nf c2],.agg #[.int .i64 5,.int .i64 n,.string ⟨#[]⟩],.int .i64 r] w fun e w'=>e=.returned (.bool (decide (0<=n) && decide (n<(nf:Int))))/\Below w.heap.size w w':=by
 have hA:∀x y,Below w.heap.size w ((w.alloc x).alloc y):=fun _ _=>(b_r.alloc n_l _).alloc (by simp) _
 go_enter Tryz.func120,Tryz.ntmps120
 go_wp2_with fail
 refine (aO _ _ _ _).mono ?_;rintro e w1 ⟨rfl,rfl⟩;go_wp2;go_ret
 exact⟨ax (by rw[Bool.eq_iff_iff];simp;omega),hA _ _⟩
theorem sOk_no(k n:Int)(r:Int)(a1 a2:Option Addr)(nt c1 nf c2:Nat)(w:World)(h0:k≠0)(h1:k≠1)(h2:k≠2)(h3:k≠3)(h4:k≠4)(h5:k≠5) :
  Calls Tryz.prog 120 #[.agg #[.slice a1 nt c1,.slice a2 nf c2],.agg #[.int .i64 k,.int .i64 n,.string ⟨#[]⟩],.int .i64 r] w fun e w'=>e=.returned (.bool (false))/\Below w.heap.size w w':=by
 have hA:∀x y,Below w.heap.size w ((w.alloc x).alloc y):=fun _ _=>(b_r.alloc n_l _).alloc (by simp) _
 have b0:(k == 0)=false:=by simpa using h0
 have b1:(k == 1)=false:=by simpa using h1
 have b2:(k == 2)=false:=by simpa using h2
 have b3:(k == 3)=false:=by simpa using h3
 have c3:(k != 3)=true:=by simpa using h3
 have b4:(k == 4)=false:=by simpa using h4
 have b5:(k == 5)=false:=by simpa using h5
 clear h0 h1 h2 h3 h4 h5;go_enter Tryz.func120,Tryz.ntmps120
 go_wp2;go_ret
 exact⟨rfl,hA _ _⟩
theorem fj(k n:Int)(s:ByteArray)(r:Int)(a1 a2:Option Addr)(nt c1 nf c2:Nat)(w:World)(hnf:nf<=1048576)(hsz:s.size<=1048576) :
  Calls Tryz.prog 120 #[.agg #[.slice a1 nt c1,.slice a2 nf c2],.agg #[.int .i64 k,.int .i64 n,.string s],.int .i64 r] w fun e w'=>e=.returned (.bool (valB k n s nf r))/\Below w.heap.size w w':=by
 by_cases h3:k=3
 ·subst h3;by_cases hn:n=0
  ·subst hn;rw[show valB 3 0 s nf r=ck s by simp[valB]]
   exact sOk_text0 s r a1 a2 nt c1 nf c2 w hsz
  ·rw[show valB 3 n s nf r=false by simp[valB,hn]]
   exact sOk_textn n s r a1 a2 nt c1 nf c2 w hn
 by_cases he:s=⟨#[]⟩
 ·subst he;by_cases h0:k=0
  ·subst h0;rw[show valB 0 n ⟨#[]⟩ nf r=decide (n=0) by simp[valB]]
   exact sOk_nil n r a1 a2 nt c1 nf c2 w
  by_cases h1:k=1
  ·subst h1;rw[show valB 1 n ⟨#[]⟩ nf r=num n by simp[valB]]
   exact sOk_int n r a1 a2 nt c1 nf c2 w
  by_cases h2:k=2
  ·subst h2;rw[show valB 2 n ⟨#[]⟩ nf r=(decide (n=0) || decide (n=1)) by simp[valB]]
   exact sOk_bool n r a1 a2 nt c1 nf c2 w
  by_cases h4:k=4
  ·subst h4;rw[show valB 4 n ⟨#[]⟩ nf r=(decide (0<=n) && decide (n<r)) by simp[valB]]
   exact sOk_rec n r a1 a2 nt c1 nf c2 w
  by_cases h5:k=5
  ·subst h5;rw[show valB 5 n ⟨#[]⟩ nf r=(decide (0<=n) && decide (n<(nf:Int))) by simp[valB]]
   exact sOk_fun n r a1 a2 nt c1 nf c2 w hnf
  ·rw[show valB k n ⟨#[]⟩ nf r=false by simp[valB,h0,h1,h2,h3,h4,h5]]
   exact sOk_no k n r a1 a2 nt c1 nf c2 w h0 h1 h2 h3 h4 h5
 ·rw[show valB k n s nf r=false by simp[valB,he,h3]]
  exact sOk_ne k n s r a1 a2 nt c1 nf c2 w h3 he
end Go.Proofs.YtbjmgmmekmfjhaaGreatDoor
