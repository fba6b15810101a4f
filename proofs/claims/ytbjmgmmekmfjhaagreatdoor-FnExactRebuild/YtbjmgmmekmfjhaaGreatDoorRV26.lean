/- RV26 -/
import Derived.Test.YtbjmgmmekmfjhaaGreatDoorRV20
import Derived.Test.YtbjmgmmekmfjhaaGreatDoorRV25
set_option maxHeartbeats 32000000
set_option maxRecDepth 100000
namespace Go.Proofs.YtbjmgmmekmfjhaaGreatDoor
open Go.RowKit
structure WIn (w0 w:World)(lo Vb Nb Pb Hb Ub nb:Nat)(va na ha:Option Addr)(nv vc nn nc hl hc:Nat):Prop where
 b0:Below w0.heap.size w0 w
 lo:w0.heap.size<=lo
 v:w.heap[Vb]?=some (.cells #[.slice va nv vc] 62 (0,0))
 n:w.heap[Nb]?=some (.cells #[.slice na nn nc] 50 (0,0))
 p:w.heap[Pb]?=some (.cells #[.func (.func 132) #[] #[.pointer (some ⟨Hb,0,none⟩),.pointer (some ⟨Ub,0,none⟩)]] 208 (0,0))
 h:w.heap[Hb]?=some (.cells #[.slice ha hl hc] 59 (0,0))
 u:w.heap[Ub]?=some (.cells #[.pointer (some ⟨nb,0,none⟩)] 204 (0,0))
section
variable {w0 w w':World} {lo Vb Nb Pb Hb Ub nb:Nat} {va na ha:Option Addr} {nv vc nn nc hl hc:Nat}
theorem WIn.km(q:WIn w0 w lo Vb Nb Pb Hb Ub nb va na ha nv vc nn nc hl hc)(k:Km lo w w'):WIn w0 w' lo Vb Nb Pb Hb Ub nb va na ha nv vc nn nc hl hc:=
 ⟨q.b0.trans (k.below q.lo q.b0.size),q.lo,k.kept q.v ⟨by decide,by decide⟩,k.kept q.n ⟨by decide,by decide⟩,k.kept q.p ⟨by decide,by decide⟩,k.kept q.h ⟨by decide,by decide⟩,k.kept q.u ⟨by decide,by decide⟩⟩
end
theorem intVal_any(n:Int)(w:World):Calls Tryz.prog 185 #[.int .i64 n] w fun e w'=>e=.returned (.agg #[.int .i64 1,.int .i64 n,.string ⟨#[]⟩])/\Below w.heap.size w w':=by
 have hbA:Below w.heap.size w (w.alloc (.cells #[.int .i64 0,.int .i64 0,.string ⟨#[]⟩] 80)):=b_r.alloc n_l _;have hR1:=al w #[.int .i64 0,.int .i64 0,.string ⟨#[]⟩] 80;have r1:=ae hR1;have r2:=aq hR1;go_enter Tryz.func185,Tryz.ntmps185
 go_wp2;refine bodyPost_ret (v:=.agg #[.int .i64 1,.int .i64 n,.string ⟨#[]⟩]) (by simp[results,Tryz.results185,go_sem]) rfl ⟨rfl,?_⟩;first | exact hbA | (repeat (first | exact hbA | exact Nat.le_refl _ | exact b_r.alloc n_l _ | apply Below.setCell))
theorem recVal_any(n:Int)(w:World):Calls Tryz.prog 186 #[.int .i64 n] w fun e w'=>e=.returned (.agg #[.int .i64 4,.int .i64 n,.string ⟨#[]⟩])/\Below w.heap.size w w':=by
 have hbA:Below w.heap.size w (w.alloc (.cells #[.int .i64 0,.int .i64 0,.string ⟨#[]⟩] 80)):=b_r.alloc n_l _;have hR1:=al w #[.int .i64 0,.int .i64 0,.string ⟨#[]⟩] 80;have r1:=ae hR1;have r2:=aq hR1;go_enter Tryz.func186,Tryz.ntmps186
 go_wp2;refine bodyPost_ret (v:=.agg #[.int .i64 4,.int .i64 n,.string ⟨#[]⟩]) (by simp[results,Tryz.results186,go_sem]) rfl ⟨rfl,?_⟩;first | exact hbA | (repeat (first | exact hbA | exact Nat.le_refl _ | exact b_r.alloc n_l _ | apply Below.setCell))
theorem place_any{w0 w:World}{lo Vb Nb Pb Hb Ub nb mb:Nat}{va na ha:Option Addr}{nv vc nn nc hl hc:Nat}(mv:Value)(ms:List Int)(r:Int)(q:WIn w0 w lo Vb Nb Pb Hb Ub nb va na ha nv vc nn nc hl hc)(hN:MetAt w lo nb mb mv ms)(hms:ms.length<=1048576)(hhl:hl<=1048576) :
  Calls Tryz.prog 132 #[.int .i64 r,.pointer (some ⟨Hb,0,none⟩),.pointer (some ⟨Ub,0,none⟩)] w fun e w'=>e=.returned (.int .i64 ((hl:Int)+posR ms r))/\Km lo w w'/\∃mv',MetAt w' lo nb mb mv' (meetR ms r):=by
 have h1:=ae q.h;have u1:=ae q.u;have HH:Hid (w.heap[Hb]?=some (.cells #[.slice ha hl hc] 59 (0,0))):=q.h;have hp:=posR_le ms r;have hw1:IntKind.i64.wrap ((hl:Int)+((posR ms r:Nat):Int))=(hl:Int)+((posR ms r:Nat):Int):=by rw[IntKind.wrap_i64];omega
 clear q;go_enter Tryz.func132,Tryz.ntmps132
 go_wp2;go_region_with (go_at_call 133;refine (numberOf_any lo nb mb mv ms r _ (hN.mono (by repeat (first | exact Below.refl _ _ | apply Below.drew))) hms).mono ?_;rintro e w1 ⟨rfl,hk,hq⟩;have h1':=ae (hk.kept (ah HH.out (by repeat (first | exact Below.refl _ _ | apply Below.drew))) ⟨by decide,by decide⟩))
 all_goals
  go_wp2;go_ret
  exact⟨rfl,(Km.of (by repeat (first | exact Below.refl _ _ | apply Below.drew))).trans hk,hq⟩
def f9 (a1 a2 oa ea:Option Addr)(nt c1 c2 oc ec nf:Nat)(D:aR)(b:Bool):Array Value:=
 #[.slice a1 nt c1,.slice a2 nf c2,.int .i64 D.fn,.int .i64 D.entry,.int .i64 D.vals,.int .i64 D.nums,.slice oa D.ops.length oc,.slice ea D.exits.length ec,.bool b]
structure Chk (a1 a2 oa ea:Option Addr)(nt c1 c2 oc ec nf K:Nat)(D:aR)(wK:World)(b:Bool)(w:World):Prop where
 blk:w.heap[K]?=some (Obj.cells (f9 a1 a2 oa ea nt c1 c2 oc ec nf D b) 233 (0,0))
 bel:Below K wK w
def Rk (K:Nat)(w w':World):Prop:=w.heap.size<=w'.heap.size/\∀g,g<w.heap.size->g≠K->w'.heap[g]?=w.heap[g]?
theorem Rk.refl(K:Nat)(w:World):Rk K w w:=⟨Nat.le_refl _,fun _ _ _=>rfl⟩
theorem Rk.trans{K:Nat}{w w' w'':World}(h:Rk K w w')(h':Rk K w' w''):Rk K w w'':=⟨Nat.le_trans h.1 h'.1,fun g h1 h2=>(h'.2 g (Nat.lt_of_lt_of_le h1 h.1) h2).trans (h.2 g h1 h2)⟩
theorem Rk.of{K:Nat}{w w':World}(h:Below w.heap.size w w'):Rk K w w':=⟨h.size,fun g h1 _=>h.block g h1⟩
theorem Rk.set{K i:Nat}{w w':World}(h:Rk K w w')(v:Value):Rk K w (w'.setCell ⟨K,i,none⟩ v):=⟨by rw[show (w'.setCell ⟨K,i,none⟩ v).heap.size=w'.heap.size by simp];exact h.1,fun g h1 h2=>by rw[Below.heap_setCell _ _ _ _ (by simpa using h2)];exact h.2 g h1 h2⟩
theorem ao{K g:Nat}{w w':World}{o:Obj}(h:w.heap[g]?=some o)(hne:g≠K)(r:Rk K w w'):w'.heap[g]?=some o:=by
 rw[r.2 g (ay h) hne];exact h
theorem or_pB(b:Bool)(P Q:Prop):((b || !pB P) || !pB Q)=(b || !pB (P/\Q)):=by
 rw[fI];cases b<;>cases pB P<;>cases pB Q<;>rfl
theorem eQ{P Q:Prop}(h:P↔Q):pB P=pB Q:=by rw[show P=Q from propext h]
section
variable {a1 a2 oa ea:Option Addr} {nt c1 c2 oc ec nf K:Nat} {D:aR} {wK w:World} {b:Bool}
theorem Chk.cells(h:Chk a1 a2 oa ea nt c1 c2 oc ec nf K D wK b w)(i:Nat):w.cell? ⟨K,i,none⟩=(#[.slice a1 nt c1,.slice a2 nf c2,.int .i64 D.fn,.int .i64 D.entry,.int .i64 D.vals,.int .i64 D.nums,.slice oa D.ops.length oc,.slice ea D.exits.length ec,.bool b]:Array Value)[i]?:=ae h.blk i
theorem Chk.free(h:Chk a1 a2 oa ea nt c1 c2 oc ec nf K D wK b w)(i:Nat):w.frozen? ⟨K,i,none⟩=false:=aq h.blk i
theorem Chk.mono{w':World}(h:Chk a1 a2 oa ea nt c1 c2 oc ec nf K D wK b w)(hb:Below w.heap.size w w'):Chk a1 a2 oa ea nt c1 c2 oc ec nf K D wK b w':=⟨ah h.blk hb,h.bel.trans (hb.mono (Nat.le_of_lt (ay h.blk)))⟩
theorem Chk.set(h:Chk a1 a2 oa ea nt c1 c2 oc ec nf K D wK b w)(b':Bool):Chk a1 a2 oa ea nt c1 c2 oc ec nf K D wK b' (w.setCell ⟨K,8,none⟩ (.bool b')):=
 ⟨by simpa[f9] using ak (i:=8) h.blk (.bool b'),h.bel.setCell n_l _⟩
theorem Chk.both{P Q:Prop}(h:Chk a1 a2 oa ea nt c1 c2 oc ec nf K D wK ((b || !pB P) || !pB Q) w):Chk a1 a2 oa ea nt c1 c2 oc ec nf K D wK (b || !pB (P/\Q)) w:=by rw[<-or_pB];exact h
theorem Chk.iff{P Q:Prop}(h:Chk a1 a2 oa ea nt c1 c2 oc ec nf K D wK (b || !pB P) w)(hq:P↔Q):Chk a1 a2 oa ea nt c1 c2 oc ec nf K D wK (b || !pB Q) w:=by rw[<-eQ hq];exact h
theorem Chk.no{P:Prop}(h:Chk a1 a2 oa ea nt c1 c2 oc ec nf K D wK true w)(hq:¬P):Chk a1 a2 oa ea nt c1 c2 oc ec nf K D wK (b || !pB P) w:=by rw[aJ hq];cases b<;>exact h
theorem ci(c:Bool)(h:Chk a1 a2 oa ea nt c1 c2 oc ec nf K D wK b w) :
  Calls Tryz.prog 205 #[.pointer (some ⟨K,0,none⟩),.bool c] w fun e w'=>e=.returned (.tuple #[])/\Chk a1 a2 oa ea nt c1 c2 oc ec nf K D wK (b || !c) w'/\Rk K w w':=by
 have k1:=h.cells;have k2:=h.free;have HC:Hid (∀b',Chk a1 a2 oa ea nt c1 c2 oc ec nf K D wK b' (w.setCell ⟨K,8,none⟩ (.bool b'))):=h.set;clear h
 cases b
 ·go_enter Tryz.func205,Tryz.ntmps205
  go_wp2;go_end0
  refine⟨rfl,HC.out _,(Rk.refl _ _).set _⟩
 ·go_enter Tryz.func205,Tryz.ntmps205
  go_wp2;go_end0
  refine⟨rfl,HC.out _,(Rk.refl _ _).set _⟩
theorem bq(P:Prop)(h:Chk a1 a2 oa ea nt c1 c2 oc ec nf K D wK b w) :
  Calls Tryz.prog 205 #[.pointer (some ⟨K,0,none⟩),.bool (pB P)] w fun e w'=>e=.returned (.tuple #[])/\Chk a1 a2 oa ea nt c1 c2 oc ec nf K D wK (b || !pB P) w'/\Rk K w w':=ci (pB P) h
theorem bg(n lo hi:Int)(w:World):Calls Tryz.prog 72 #[.int .i64 n,.int .i64 lo,.int .i64 hi] w fun e w'=>e=.returned (.bool (pB (Btw n lo hi)))/\w'=w:=
 (aO n lo hi w).mono fun _ _ q=>⟨q.1.trans (bP (by simp[Btw])),q.2⟩
theorem bd(W:World)(n lo hi:Int)(h:Btw n lo hi):Hid (∀w',Below W.heap.size W w'->Calls Tryz.prog 72 #[.int .i64 n,.int .i64 lo,.int .i64 hi] w' fun e w''=>e=.returned (.bool true)/\Below w'.heap.size w' w''):=fun w' _=>(bg _ _ _ _).mono fun _ _ q=>⟨by rw[q.1,aL h],by rw[q.2];exact Below.refl _ _⟩
theorem dS(n:Int)(c:Nat):pB (Btw n 0 ((c:Int)-1))=pB (Reg n c):=eQ ⟨fun q=>⟨q.1,by have:=q.2;omega⟩,fun q=>⟨q.1,by have:=q.2;omega⟩⟩
theorem aV(r:Int)(hv:-1<=D.vals/\D.vals<=400)(h:Chk a1 a2 oa ea nt c1 c2 oc ec nf K D wK b w) :
  Calls Tryz.prog 204 #[.pointer (some ⟨K,0,none⟩),.int .i64 r] w fun e w'=>e=.returned (.tuple #[])/\Chk a1 a2 oa ea nt c1 c2 oc ec nf K D wK (b || !pB (Reg r D.vals)) w'/\Rk K w w':=by
 have k1:=h.cells;have hw1:IntKind.i64.wrap (D.vals-1)=D.vals-1:=by rw[IntKind.wrap_i64];omega
 go_enter Tryz.func204,Tryz.ntmps204
 go_wp2_with fail
 refine (bg _ _ _ _).mono ?_;rintro e w1 ⟨rfl,hw⟩;rw[hw];clear hw;go_wp2_with fail
 refine (bq _ h).mono ?_;rintro e w2 ⟨rfl,hc,hr⟩;clear k1;go_wp2;go_end0
 refine⟨rfl,?_,?_⟩
 ·exact hc.iff ⟨fun q=>⟨q.1,by have:=q.2;omega⟩,fun q=>⟨q.1,by have:=q.2;omega⟩⟩
 ·exact hr
theorem bK(r:Int)(hv:0<=D.nums/\D.nums<=400)(h:Chk a1 a2 oa ea nt c1 c2 oc ec nf K D wK b w) :
  Calls Tryz.prog 206 #[.pointer (some ⟨K,0,none⟩),.int .i64 r] w fun e w'=>e=.returned (.tuple #[])/\Chk a1 a2 oa ea nt c1 c2 oc ec nf K D wK (b || !pB (Reg r D.nums)) w'/\Rk K w w':=by
 have k1:=h.cells;have hw1:IntKind.i64.wrap (D.nums-1)=D.nums-1:=by rw[IntKind.wrap_i64];omega
 go_enter Tryz.func206,Tryz.ntmps206
 go_wp2_with fail
 refine (bg _ _ _ _).mono ?_;rintro e w1 ⟨rfl,hw⟩;rw[hw];clear hw;go_wp2_with fail
 refine (bq _ h).mono ?_;rintro e w2 ⟨rfl,hc,hr⟩;clear k1;go_wp2;go_end0
 refine⟨rfl,?_,?_⟩
 ·exact hc.iff ⟨fun q=>⟨q.1,by have:=q.2;omega⟩,fun q=>⟨q.1,by have:=q.2;omega⟩⟩
 ·exact hr
theorem bh(r:Int)(hv:D.exits.length<=1048576)(h:Chk a1 a2 oa ea nt c1 c2 oc ec nf K D wK b w) :
  Calls Tryz.prog 201 #[.pointer (some ⟨K,0,none⟩),.int .i64 r] w fun e w'=>e=.returned (.tuple #[])/\Chk a1 a2 oa ea nt c1 c2 oc ec nf K D wK (b || !pB (Reg r D.exits.length)) w'/\Rk K w w':=by
 have k1:=h.cells;have hw1:IntKind.i64.wrap ((D.exits.length:Int)-1)=(D.exits.length:Int)-1:=by rw[IntKind.wrap_i64];omega
 go_enter Tryz.func201,Tryz.ntmps201
 go_wp2_with fail
 refine (bg _ _ _ _).mono ?_;rintro e w1 ⟨rfl,hw⟩;rw[hw];clear hw;go_wp2_with fail
 refine (bq _ h).mono ?_;rintro e w2 ⟨rfl,hc,hr⟩;clear k1;go_wp2;go_end0
 refine⟨rfl,?_,?_⟩
 ·exact hc.iff ⟨fun q=>⟨q.1,by have:=q.2;omega⟩,fun q=>⟨q.1,by have:=q.2;omega⟩⟩
 ·exact hr
theorem aI(r:Int)(h:Chk a1 a2 oa ea nt c1 c2 oc ec nf K D wK b w) :
  Calls Tryz.prog 202 #[.pointer (some ⟨K,0,none⟩),.int .i64 r] w fun e w'=>e=.returned (.tuple #[])/\Chk a1 a2 oa ea nt c1 c2 oc ec nf K D wK (b || !pB (r=0)) w'/\Rk K w w':=by
 go_enter Tryz.func202,Tryz.ntmps202
 go_wp2_with fail
 rw[gQ];refine (bq _ h).mono ?_;rintro e w2 ⟨rfl,hc,hr⟩;go_wp2;go_end0
 refine⟨rfl,?_,?_⟩
 ·exact hc
 ·exact hr
theorem aP(v:Vl)(h:Chk a1 a2 oa ea nt c1 c2 oc ec nf K D wK b w) :
  Calls Tryz.prog 203 #[.pointer (some ⟨K,0,none⟩),.agg #[.int .i64 v.k,.int .i64 v.n,.string v.s]] w fun e w'=>e=.returned (.tuple #[])/\Chk a1 a2 oa ea nt c1 c2 oc ec nf K D wK (b || !pB (v=zeroV)) w'/\Rk K w w':=by
 have g36:=guard36;have e36:=gT v zeroV;unfold zeroV at e36;dsimp only at e36
 have hA:=h.mono (b_r.alloc n_l (.cells #[.int .i64 v.k,.int .i64 v.n,.string v.s] 80));go_enter Tryz.func203,Tryz.ntmps203
 go_wp2_with fail
 refine (bq _ hA).mono ?_;rintro e w2 ⟨rfl,hc,hr⟩;clear e36 g36;go_wp2;go_end0
 refine⟨rfl,?_,?_⟩
 ·exact hc
 ·exact (Rk.of (b_r.alloc n_l _)).trans hr
end
section
variable {a1 a2 oa ea:Option Addr} {nt c1 c2 oc ec nf K:Nat} {D:aR} {wK w:World} {b:Bool}
theorem kGoal_any(at' n:Int)(hn:D.ops.length<=1048576)(ho:cV w 0 oa D.ops)(h:Chk a1 a2 oa ea nt c1 c2 oc ec nf K D wK b w) :
  Calls Tryz.prog 207 #[.pointer (some ⟨K,0,none⟩),.int .i64 at',.int .i64 n] w fun e w'=>e=.returned (.tuple #[])/\Chk a1 a2 oa ea nt c1 c2 oc ec nf K D wK (b || !pB (aD nf D at' 6 n)) w'/\Rk K w w':=by
 have k1:=h.cells;have k2:=h.free;have hw1:IntKind.i64.wrap ((D.ops.length:Int)-1)=(D.ops.length:Int)-1:=by rw[IntKind.wrap_i64];omega
 have HH:Hid (Chk a1 a2 oa ea nt c1 c2 oc ec nf K D wK b w):=h;by_cases hr:Reg n D.ops.length
 case neg=>
  have HB:pB (Btw n 0 ((D.ops.length:Int)-1))=false:=by rw[dS];exact aJ hr
  have HN:Hid (¬aD nf D at' 6 n):=fun q=>hr ⟨q.1,by obtain⟨q1,q2,-⟩:=q;omega⟩
  clear hr h;go_enter Tryz.func207,Tryz.ntmps207
  go_wp2_with fail
  refine (bg _ _ _ _).mono ?_;rintro e w1 ⟨rfl,hw⟩;rw[hw,HB];clear hw w1;go_wp2_with fail
  (try simp only[Exit.inBlock,Exit.then])
  refine bodyPost_ret (results_none rfl _ _ _) rfl ?_;exact⟨rfl,(HH.out.set true).no HN.out,(Rk.refl _ _).set _⟩
 have HB:pB (Btw n 0 ((D.ops.length:Int)-1))=true:=by rw[dS];exact aL hr
 obtain⟨i,rfl⟩:∃i:Nat,n=i:=⟨n.toNat,by have:=hr.1;omega⟩;have hi:i<D.ops.length:=by have:=hr.2;omega
 clear hr h;obtain⟨b',off,rfl,-,d0,-⟩:=ho i hi;have z1:(i:Int)<(D.ops.length:Int):=by omega
 by_cases ha:at'<(i:Int)
 case pos=>
  go_enter Tryz.func207,Tryz.ntmps207
  go_wp2_with fail
  refine (bg _ _ _ _).mono ?_;rintro e w1 ⟨rfl,hw⟩;rw[hw,HB];clear hw w1;go_wp2_with fail
  refine (ci true HH.out).mono ?_;rintro e w2 ⟨rfl,hc,hr⟩;clear k1 k2 d0;go_wp2;go_end0
  refine⟨rfl,?_,hr⟩;rw[aL (show aD nf D at' 6 (i:Int) from ⟨by omega,by simpa using hi,.inl ha⟩)]
  exact hc
 have HI:Hid (aD nf D at' 6 (i:Int)↔D.ops[i].op=25):=by
  constructor
  ·rintro⟨_,_,q | q⟩
   ·exact absurd q ha
   ·simpa using q
  ·intro q;exact⟨by omega,by simpa using hi,.inr (by simpa using q)⟩
 have ha':¬at'<(i:Int):=ha;by_cases ho2:D.ops[i].op=25
 case pos=>
  have HO:Hid (D.ops[i].op=25):=ho2;rw[ho2] at d0;clear ho2;go_enter Tryz.func207,Tryz.ntmps207
  go_wp2_with fail
  refine (bg _ _ _ _).mono ?_;rintro e w1 ⟨rfl,hw⟩;rw[hw,HB];clear hw w1;go_wp2_with fail
  refine (ci true HH.out).mono ?_;rintro e w2 ⟨rfl,hc,hr⟩;clear k1 k2 d0;go_wp2;go_end0
  refine⟨rfl,?_,hr⟩;rw[aL (HI.out.2 HO.out)];exact hc
 case neg=>
  have HO:Hid (¬D.ops[i].op=25):=ho2;have ho3:(D.ops[i].op == 25)=false:=by simpa using ho2
  obtain⟨ov,hov⟩:∃ov,ov=D.ops[i].op:=⟨_,rfl⟩;rw[<-hov] at d0 ho3;clear ho2 hov;go_enter Tryz.func207,Tryz.ntmps207
  go_wp2_with fail
  refine (bg _ _ _ _).mono ?_;rintro e w1 ⟨rfl,hw⟩;rw[hw,HB];clear hw w1;go_wp2_with fail
  rw[show decide (at'<(i:Int))=false by simp;omega]
  refine (ci false HH.out).mono ?_;rintro e w2 ⟨rfl,hc,hr⟩;clear k1 k2 d0;go_wp2;go_end0
  refine⟨rfl,?_,hr⟩;rw[aJ (fun q=>HO.out (HI.out.1 q))];exact hc
end
structure SLim (fs:List Fn)(D:aR)(K:Nat)(wK:World)(a2 oa ea:Option Addr):Prop where
 size:K=wK.heap.size
 nf:fs.length<=1048576
 code:∀f∈fs,f.code.length<=1048576
 vals:-1<=D.vals/\D.vals<=400
 nums:0<=D.nums/\D.nums<=400
 nops:D.ops.length<=1048576
 nex:D.exits.length<=1048576
 fns:FnsAt wK 0 a2 fs
 ops:cV wK 0 oa D.ops
 exits:cZ wK 0 ea D.exits
 fast:a8 D
 fine:∀k (hk:k<fs.length),Fine fs fs[k].code
section
variable {fs:List Fn} {a1 a2 oa ea:Option Addr} {nt c1 c2 oc ec K:Nat} {D:aR} {wK w:World} {b:Bool}
theorem SLim.at{nf:Nat}(l:SLim fs D K wK a2 oa ea)(h:Chk a1 a2 oa ea nt c1 c2 oc ec nf K D wK b w):FnsAt w 0 a2 fs/\cV w 0 oa D.ops/\cZ w 0 ea D.exits:=by
 have hb:=h.bel;rw[l.size] at hb;exact⟨l.fns.mono hb,l.ops.mono hb,l.exits.mono hb⟩
theorem bH{at':Int}{x:Fo}(v:Nat)(hop:x.op=v)(h1:1<=v)(h2:v<=29)(his:(insD fs x.f x.p).isSome=true):FopP fs D at' x↔aD fs.length D at' (sh v 0) x.d/\aD fs.length D at' (sh v 1) x.a/\aD fs.length D at' (sh v 2) x.b/\aD fs.length D at' (sh v 3) x.x/\bi fs.length (sh v 4) x.v:=by
 have e:x.op.toNat=v:=by omega
 unfold FopP;rw[e];exact⟨fun q=>q.2.2,fun q=>⟨⟨by omega,by omega⟩,his,q⟩⟩
theorem bE{f p:Int}(h:(insD fs f p).isSome=true):∃(i j:Nat) (hi:i<fs.length),f=i/\p=j/\j<fs[i].code.length:=by
 unfold insD at h;split at h
 case isFalse=>cases h
 case isTrue q=>
  cases e:fs[f.toNat]? with
  | none=>rw[e] at h;cases h
  | some g=>
   rw[e] at h;obtain⟨hi,he⟩:=List.getElem?_eq_some_iff.1 e;have h':(g.code[p.toNat]?).isSome=true:=h;have hj:p.toNat<g.code.length:=by simpa using h'
   exact⟨f.toNat,p.toNat,hi,by omega,by omega,by rw[he];exact hj⟩
end
end Go.Proofs.YtbjmgmmekmfjhaaGreatDoor
