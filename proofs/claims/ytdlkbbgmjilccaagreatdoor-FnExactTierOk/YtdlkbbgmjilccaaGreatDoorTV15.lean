/- TV15 -/
import Derived.Test.YtdlkbbgmjilccaaGreatDoorTV8
set_option maxHeartbeats 32000000
set_option maxRecDepth 100000
namespace Go.Proofs.YtdlkbbgmjilccaaGreatDoor
open Go.RowKit
theorem iIn_fun_ne(n:Int)(s:ByteArray)(r:Int)(a1 a2:Option Addr)(nt c1 nf c2:Nat)(w:World)(hne:s≠⟨#[]⟩) :
  Calls Tryz.prog 110 #[.agg #[.slice a1 nt c1,.slice a2 nf c2],.agg #[.int .i64 5,.int .i64 n,.string s],.int .i64 r] w fun e w'=>e=.returned (.bool (false))/\Below w.heap.size w w':=by
 have hA:Below w.heap.size w ((w.alloc (.cells #[.slice a1 nt c1,.slice a2 nf c2] 42)).alloc (.cells #[.int .i64 5,.int .i64 n,.string s] 46)):=(gM.alloc nL _).alloc (by simp) _;have m1 : ∀ (v : Value) (W : World), (Go.method 480 287 v "loop.example/g00094/impl.value").run Tryz.prog W = .ok (267, v) W := fun _ _ => by kernel_rfl
 have m2 : ∀ (v : Value) (W : World), (Go.method 480 287 v "loop.example/g00094/impl.okIn").run Tryz.prog W = .ok (265, v) W := fun _ _ => by kernel_rfl
 have HA:Hid (Below w.heap.size w ((w.alloc (.cells #[.slice a1 nt c1,.slice a2 nf c2] 42)).alloc (.cells #[.int .i64 5,.int .i64 n,.string s] 46))):=hA;clear hA;go_enter Tryz.func110,Tryz.ntmps110
 go_wp2_with fail
 refine (aM _ _ _ _).mono ?_;rintro e w1 ⟨rfl,hb1⟩;rw[show bQ 5 n s=.iface 287 (.int .i64 n) by rfl]
 have hx:=ab (al (ah w #[.slice a1 nt c1,.slice a2 nf c2] 42) (.cells #[.int .i64 5,.int .i64 n,.string s] 46)) hb1;have hy:=ab (ax _ #[.int .i64 5,.int .i64 n,.string s] 46 (w.heap.size+1) (by simp)) hb1;have hB1:=HA.out.trans (hb1.mono HA.out.size);have HB:Hid (Below w.heap.size w w1):=hB1;have hZ:Hid (w.heap.size+2<=w1.heap.size):=aq hy
 have hS:∀w',Below (w.heap.size+2) w1 w'->w'.cell? ⟨w.heap.size,0,none⟩=some (.slice a1 nt c1)/\w'.cell? ⟨w.heap.size,1,none⟩=some (.slice a2 nf c2)/\w'.cell? ⟨w.heap.size+1,0,none⟩=some (.int .i64 5)/\w'.cell? ⟨w.heap.size+1,1,none⟩=some (.int .i64 n)/\w'.cell? ⟨w.heap.size+1,2,none⟩=some (.string s):=fun w' hb=>
  ⟨by rw[hb.cell (by simp),aa hx];rfl,by rw[hb.cell (by simp),aa hx];rfl,by rw[hb.cell (by simp),aa hy];rfl,by rw[hb.cell (by simp),aa hy];rfl,by rw[hb.cell (by simp),aa hy];rfl⟩
 have HS:Hid (∀w',Below (w.heap.size+2) w1 w'->w'.cell? ⟨w.heap.size,0,none⟩=some (.slice a1 nt c1)/\w'.cell? ⟨w.heap.size,1,none⟩=some (.slice a2 nf c2)/\w'.cell? ⟨w.heap.size+1,0,none⟩=some (.int .i64 5)/\w'.cell? ⟨w.heap.size+1,1,none⟩=some (.int .i64 n)/\w'.cell? ⟨w.heap.size+1,2,none⟩=some (.string s)):=hS;obtain⟨j0,j1,j2,j3,j4⟩:=hS w1 gM;have q:Below w1.heap.size w1 w1.drew:=gM.drew;clear hS hx hy hB1 hb1 HA;have e1:=(a7 hne).1;have e2:=(a7 hne).2;clear hne;go_wp2
 first | (go_region_with (first
   | (go_at_call 267;refine (eJ _ _).mono ?_;rintro e wa ⟨rfl,kd⟩;have q:=q.trans (kd.mono q.size);obtain⟨j0,j1,j2,j3,j4⟩:=HS.out _ (q.mono hZ.out)))) | fail
 all_goals
  go_wp2;go_ret
  exact⟨rfl,HB.out.trans (q.mono HB.out.size)⟩
theorem iIn_fun_no(n:Int)(r:Int)(a1 a2:Option Addr)(nt c1 nf c2:Nat)(w:World)(hb:(decide (0<=n) && decide (n<(nf:Int)))=false) :
  Calls Tryz.prog 110 #[.agg #[.slice a1 nt c1,.slice a2 nf c2],.agg #[.int .i64 5,.int .i64 n,.string ⟨#[]⟩],.int .i64 r] w fun e w'=>e=.returned (.bool (false))/\Below w.heap.size w w':=by
 have hA:Below w.heap.size w ((w.alloc (.cells #[.slice a1 nt c1,.slice a2 nf c2] 42)).alloc (.cells #[.int .i64 5,.int .i64 n,.string ⟨#[]⟩] 46)):=(gM.alloc nL _).alloc (by simp) _;have m1 : ∀ (v : Value) (W : World), (Go.method 480 287 v "loop.example/g00094/impl.value").run Tryz.prog W = .ok (267, v) W := fun _ _ => by kernel_rfl
 have m2 : ∀ (v : Value) (W : World), (Go.method 480 287 v "loop.example/g00094/impl.okIn").run Tryz.prog W = .ok (265, v) W := fun _ _ => by kernel_rfl
 have HA:Hid (Below w.heap.size w ((w.alloc (.cells #[.slice a1 nt c1,.slice a2 nf c2] 42)).alloc (.cells #[.int .i64 5,.int .i64 n,.string ⟨#[]⟩] 46))):=hA;clear hA;go_enter Tryz.func110,Tryz.ntmps110
 go_wp2_with fail
 refine (aM _ _ _ _).mono ?_;rintro e w1 ⟨rfl,hb1⟩;rw[show bQ 5 n ⟨#[]⟩=.iface 287 (.int .i64 n) by rfl]
 have hx:=ab (al (ah w #[.slice a1 nt c1,.slice a2 nf c2] 42) (.cells #[.int .i64 5,.int .i64 n,.string ⟨#[]⟩] 46)) hb1;have hy:=ab (ax _ #[.int .i64 5,.int .i64 n,.string ⟨#[]⟩] 46 (w.heap.size+1) (by simp)) hb1;have hB1:=HA.out.trans (hb1.mono HA.out.size);have HB:Hid (Below w.heap.size w w1):=hB1;have hZ:Hid (w.heap.size+2<=w1.heap.size):=aq hy
 have hS:∀w',Below (w.heap.size+2) w1 w'->w'.cell? ⟨w.heap.size,0,none⟩=some (.slice a1 nt c1)/\w'.cell? ⟨w.heap.size,1,none⟩=some (.slice a2 nf c2)/\w'.cell? ⟨w.heap.size+1,0,none⟩=some (.int .i64 5)/\w'.cell? ⟨w.heap.size+1,1,none⟩=some (.int .i64 n)/\w'.cell? ⟨w.heap.size+1,2,none⟩=some (.string ⟨#[]⟩):=fun w' hb=>
  ⟨by rw[hb.cell (by simp),aa hx];rfl,by rw[hb.cell (by simp),aa hx];rfl,by rw[hb.cell (by simp),aa hy];rfl,by rw[hb.cell (by simp),aa hy];rfl,by rw[hb.cell (by simp),aa hy];rfl⟩
 have HS:Hid (∀w',Below (w.heap.size+2) w1 w'->w'.cell? ⟨w.heap.size,0,none⟩=some (.slice a1 nt c1)/\w'.cell? ⟨w.heap.size,1,none⟩=some (.slice a2 nf c2)/\w'.cell? ⟨w.heap.size+1,0,none⟩=some (.int .i64 5)/\w'.cell? ⟨w.heap.size+1,1,none⟩=some (.int .i64 n)/\w'.cell? ⟨w.heap.size+1,2,none⟩=some (.string ⟨#[]⟩)):=hS;obtain⟨j0,j1,j2,j3,j4⟩:=hS w1 gM;have q:Below w1.heap.size w1 w1.drew:=gM.drew;clear hS hx hy hB1 hb1 HA;go_wp2
 first | (go_region_with (first
   | (go_at_call 267;refine (eJ _ _).mono ?_;rintro e wa ⟨rfl,kd⟩;have q:=q.trans (kd.mono q.size);obtain⟨j0,j1,j2,j3,j4⟩:=HS.out _ (q.mono hZ.out))
   | (go_at_call 265;refine (okIn_fun _ _ _ _ _ _ _ _ _).mono ?_;rintro e wb ⟨rfl,kd⟩;have q:=q.trans (kd.mono q.size);obtain⟨j0,j1,j2,j3,j4⟩:=HS.out _ (q.mono hZ.out)))) | fail
 all_goals
  go_wp2;go_ret
  exact⟨rfl,HB.out.trans (q.mono HB.out.size)⟩
theorem iIn_fun_yes(n:Int)(r:Int)(a1 a2:Option Addr)(nt c1 nf c2:Nat)(w:World)(hb:(decide (0<=n) && decide (n<(nf:Int)))=true) :
  Calls Tryz.prog 110 #[.agg #[.slice a1 nt c1,.slice a2 nf c2],.agg #[.int .i64 5,.int .i64 n,.string ⟨#[]⟩],.int .i64 r] w fun e w'=>e=.returned (.bool (true))/\Below w.heap.size w w':=by
 have hA:Below w.heap.size w ((w.alloc (.cells #[.slice a1 nt c1,.slice a2 nf c2] 42)).alloc (.cells #[.int .i64 5,.int .i64 n,.string ⟨#[]⟩] 46)):=(gM.alloc nL _).alloc (by simp) _;have m1 : ∀ (v : Value) (W : World), (Go.method 480 287 v "loop.example/g00094/impl.value").run Tryz.prog W = .ok (267, v) W := fun _ _ => by kernel_rfl
 have m2 : ∀ (v : Value) (W : World), (Go.method 480 287 v "loop.example/g00094/impl.okIn").run Tryz.prog W = .ok (265, v) W := fun _ _ => by kernel_rfl
 have HA:Hid (Below w.heap.size w ((w.alloc (.cells #[.slice a1 nt c1,.slice a2 nf c2] 42)).alloc (.cells #[.int .i64 5,.int .i64 n,.string ⟨#[]⟩] 46))):=hA;clear hA;go_enter Tryz.func110,Tryz.ntmps110
 go_wp2_with fail
 refine (aM _ _ _ _).mono ?_;rintro e w1 ⟨rfl,hb1⟩;rw[show bQ 5 n ⟨#[]⟩=.iface 287 (.int .i64 n) by rfl]
 have hx:=ab (al (ah w #[.slice a1 nt c1,.slice a2 nf c2] 42) (.cells #[.int .i64 5,.int .i64 n,.string ⟨#[]⟩] 46)) hb1;have hy:=ab (ax _ #[.int .i64 5,.int .i64 n,.string ⟨#[]⟩] 46 (w.heap.size+1) (by simp)) hb1;have hB1:=HA.out.trans (hb1.mono HA.out.size);have HB:Hid (Below w.heap.size w w1):=hB1;have hZ:Hid (w.heap.size+2<=w1.heap.size):=aq hy
 have hS:∀w',Below (w.heap.size+2) w1 w'->w'.cell? ⟨w.heap.size,0,none⟩=some (.slice a1 nt c1)/\w'.cell? ⟨w.heap.size,1,none⟩=some (.slice a2 nf c2)/\w'.cell? ⟨w.heap.size+1,0,none⟩=some (.int .i64 5)/\w'.cell? ⟨w.heap.size+1,1,none⟩=some (.int .i64 n)/\w'.cell? ⟨w.heap.size+1,2,none⟩=some (.string ⟨#[]⟩):=fun w' hb=>
  ⟨by rw[hb.cell (by simp),aa hx];rfl,by rw[hb.cell (by simp),aa hx];rfl,by rw[hb.cell (by simp),aa hy];rfl,by rw[hb.cell (by simp),aa hy];rfl,by rw[hb.cell (by simp),aa hy];rfl⟩
 have HS:Hid (∀w',Below (w.heap.size+2) w1 w'->w'.cell? ⟨w.heap.size,0,none⟩=some (.slice a1 nt c1)/\w'.cell? ⟨w.heap.size,1,none⟩=some (.slice a2 nf c2)/\w'.cell? ⟨w.heap.size+1,0,none⟩=some (.int .i64 5)/\w'.cell? ⟨w.heap.size+1,1,none⟩=some (.int .i64 n)/\w'.cell? ⟨w.heap.size+1,2,none⟩=some (.string ⟨#[]⟩)):=hS;obtain⟨j0,j1,j2,j3,j4⟩:=hS w1 gM;have q:Below w1.heap.size w1 w1.drew:=gM.drew;clear hS hx hy hB1 hb1 HA;go_wp2
 first | (go_region_with (first
   | (go_at_call 267;refine (eJ _ _).mono ?_;rintro e wa ⟨rfl,kd⟩;have q:=q.trans (kd.mono q.size);obtain⟨j0,j1,j2,j3,j4⟩:=HS.out _ (q.mono hZ.out))
   | (go_at_call 265;refine (okIn_fun _ _ _ _ _ _ _ _ _).mono ?_;rintro e wb ⟨rfl,kd⟩;have q:=q.trans (kd.mono q.size);obtain⟨j0,j1,j2,j3,j4⟩:=HS.out _ (q.mono hZ.out)))) | fail
 all_goals
  go_wp2;go_ret
  exact⟨rfl,HB.out.trans (q.mono HB.out.size)⟩
end Go.Proofs.YtdlkbbgmjilccaaGreatDoor
