/- RV38 -/
import Derived.Test.YtbjmgmmekmfjhaaGreatDoorRV21
import Derived.Test.YtbjmgmmekmfjhaaGreatDoorRV20
set_option maxHeartbeats 32000000
set_option maxRecDepth 100000
namespace Go.Proofs.YtbjmgmmekmfjhaaGreatDoor
open Go.RowKit
theorem eqSrc_any(x:Sr)(w:World) :
  Calls Tryz.prog 294 #[.agg #[.int .i64 x.k,.int .i64 x.n,.int .i64 x.v.k,.int .i64 x.v.n,.string x.v.s],.agg #[.int .i64 x.k,.int .i64 x.n,.int .i64 x.v.k,.int .i64 x.v.n,.string x.v.s]] w fun e w'=>e=.returned (.bool true)/\Below w.heap.size w w':=by
 have hbA:Below w.heap.size w ((w.alloc (.cells #[.int .i64 x.k,.int .i64 x.n,.int .i64 x.v.k,.int .i64 x.v.n,.string x.v.s] 212)).alloc (.cells #[.int .i64 x.k,.int .i64 x.n,.int .i64 x.v.k,.int .i64 x.v.n,.string x.v.s] 212)):=(b_r.alloc n_l _).alloc (by simp) _;have hX0:=au (al w #[.int .i64 x.k,.int .i64 x.n,.int .i64 x.v.k,.int .i64 x.v.n,.string x.v.s] 212) (.cells #[.int .i64 x.k,.int .i64 x.n,.int .i64 x.v.k,.int .i64 x.v.n,.string x.v.s] 212);have hY0:=al (w.alloc (.cells #[.int .i64 x.k,.int .i64 x.n,.int .i64 x.v.k,.int .i64 x.v.n,.string x.v.s] 212)) #[.int .i64 x.k,.int .i64 x.n,.int .i64 x.v.k,.int .i64 x.v.n,.string x.v.s] 212;simp only[World.size_alloc] at hY0
 go_enter Tryz.func294,Tryz.ntmps294
 go_wp2_with fail
 refine (dw _ _ _ _).mono ?_;rintro e w1 ⟨rfl,hb⟩;have hB1:=hbA.trans (hb.mono hbA.size);have hX1:=ah hX0 hb;have hY1:=ah hY0 hb;clear hb;have x1:=ae hX1;have y1:=ae hY1;go_wp2;go_ret
 exact⟨rfl,hB1⟩
theorem eN(a a':Option Addr)(xs:List Sr)(cap cap2:Nat)(w:World)(hx:bj bQ xs)(hm:bD w 0 a xs)(hm2:bD w 0 a' xs) :
  Calls Tryz.prog 279 #[.slice a xs.length cap,.slice a' xs.length cap2] w fun e w'=>e=.returned (.bool true)/\Below w.heap.size w w':=by
 obtain⟨hn,hc⟩:=hx;go_enter Tryz.func279,Tryz.ntmps279
 go_wp2;go_loopw [5] (fun i wr=>∃(k:Nat),k<=xs.length/\i=.int .i64 k/\Below w.heap.size w wr) (fun i _=>xs.length-(intOf i).toNat)
 case atStart=>exact⟨0,by omega,rfl,Below.refl _ _⟩
 case round=>
  obtain⟨k,hk,rfl,hb⟩:=hrel;by_cases hlt:k<xs.length
  ·obtain⟨b,off,rfl,-,d0,d1,d2,d3,d4⟩:=hm k hlt;obtain⟨b',off',rfl,-,k0,k1,k2,k3,k4⟩:=hm2 k hlt;have d0':=cell_later hb d0;have k0':=cell_later hb k0;have d1':=cell_later hb d1;have k1':=cell_later hb k1;have d2':=cell_later hb d2;have k2':=cell_later hb k2;have d3':=cell_later hb d3;have k3':=cell_later hb k3;have d4':=cell_later hb d4;have k4':=cell_later hb k4;clear d0 k0 d1 k1 d2 k2 d3 k3 d4 k4;go_wp2;go_region_with (go_at_call 294;refine (eqSrc_any xs[k] _).mono ?_;rintro e w1 ⟨rfl,hb1⟩)
   all_goals
    go_wp2;go_roundw
    case rel=>
     refine⟨k+1,by omega,by go_num,Below.trans ?_ (hb1.mono ?_)⟩
     ·repeat (first | exact hb | apply Below.drew)
     ·exact hb.size
    case measure=>simp[intOf];omega
  ·go_wp2;go_ret
   exact⟨rfl,hb⟩
theorem eqExFrame_any(x:EF)(a0 b0:Option Addr)(c0 e0:Nat)(a1 b1:Option Addr)(c1 e1:Nat)(w:World)(hn0:bj bQ x.locals)(p0:bD w 0 a0 x.locals)(q0:bD w 0 b0 x.locals)(hn1:bj bQ x.stack)(p1:bD w 0 a1 x.stack)(q1:bD w 0 b1 x.stack) :
  Calls Tryz.prog 240 #[.agg #[.int .i64 x.fn,.int .i64 x.pc,.slice a0 x.locals.length c0,.slice a1 x.stack.length c1],.agg #[.int .i64 x.fn,.int .i64 x.pc,.slice b0 x.locals.length e0,.slice b1 x.stack.length e1]] w fun e w'=>e=.returned (.bool true)/\Below w.heap.size w w':=by
 have hbA:Below w.heap.size w ((w.alloc (.cells #[.int .i64 x.fn,.int .i64 x.pc,.slice a0 x.locals.length c0,.slice a1 x.stack.length c1] 114)).alloc (.cells #[.int .i64 x.fn,.int .i64 x.pc,.slice b0 x.locals.length e0,.slice b1 x.stack.length e1] 114)):=(b_r.alloc n_l _).alloc (by simp) _;have hX0:=au (al w #[.int .i64 x.fn,.int .i64 x.pc,.slice a0 x.locals.length c0,.slice a1 x.stack.length c1] 114) (.cells #[.int .i64 x.fn,.int .i64 x.pc,.slice b0 x.locals.length e0,.slice b1 x.stack.length e1] 114);have hY0:=al (w.alloc (.cells #[.int .i64 x.fn,.int .i64 x.pc,.slice a0 x.locals.length c0,.slice a1 x.stack.length c1] 114)) #[.int .i64 x.fn,.int .i64 x.pc,.slice b0 x.locals.length e0,.slice b1 x.stack.length e1] 114;simp only[World.size_alloc] at hY0
 go_enter Tryz.func240,Tryz.ntmps240
 go_wp2_with fail
 refine (eN _ _ x.locals _ _ _ hn0 (p0.mono hbA) (q0.mono hbA)).mono ?_;rintro e w1 ⟨rfl,hb⟩;have hB1:=hbA.trans (hb.mono hbA.size);have hX1:=ah hX0 hb;have hY1:=ah hY0 hb;clear hb;have x1:=ae hX1;have y1:=ae hY1;go_wp2_with fail
 refine (eN _ _ x.stack _ _ _ hn1 (p1.mono hB1) (q1.mono hB1)).mono ?_;rintro e w2 ⟨rfl,hb⟩;have hB2:=hB1.trans (hb.mono hB1.size);have hX2:=ah hX1 hb;have hY2:=ah hY1 hb;clear x1 y1 hb;have x2:=ae hX2;have y2:=ae hY2;go_wp2;go_ret
 exact⟨rfl,hB2⟩
theorem eqExFrameS_any(a a':Option Addr)(xs:List EF)(cap cap2:Nat)(w:World)(hx:bj cK xs)(hm:cg w 0 a xs)(hm2:cg w 0 a' xs) :
  Calls Tryz.prog 173 #[.slice a xs.length cap,.slice a' xs.length cap2] w fun e w'=>e=.returned (.bool true)/\Below w.heap.size w w':=by
 obtain⟨hn,hc⟩:=hx;go_enter Tryz.func173,Tryz.ntmps173
 go_wp2;go_loopw [5] (fun i wr=>∃(k:Nat),k<=xs.length/\i=.int .i64 k/\Below w.heap.size w wr) (fun i _=>xs.length-(intOf i).toNat)
 case atStart=>exact⟨0,by omega,rfl,Below.refl _ _⟩
 case round=>
  obtain⟨k,hk,rfl,hb⟩:=hrel;by_cases hlt:k<xs.length
  ·obtain⟨b,off,a0,c0,a1,c1,rfl,-,d0,d1,d2,d3,p0,p1⟩:=hm k hlt;obtain⟨b',off',b0,e0,b1,e1,rfl,-,k0,k1,k2,k3,q0,q1⟩:=hm2 k hlt;have d0':=cell_later hb d0;have k0':=cell_later hb k0;have d1':=cell_later hb d1;have k1':=cell_later hb k1;have d2':=cell_later hb d2;have k2':=cell_later hb k2;have d3':=cell_later hb d3;have k3':=cell_later hb k3;have hc0:=(hc xs[k] (g_m hlt)).1;have hc1:=(hc xs[k] (g_m hlt)).2;clear d0 k0 d1 k1 d2 k2 d3 k3;go_wp2;go_region_with (go_at_call 240;refine (eqExFrame_any xs[k] _ _ _ _ _ _ _ _ _ hc0 (by exact p0.mono (by repeat (first | exact hb | apply Below.drew))) (by exact q0.mono (by repeat (first | exact hb | apply Below.drew))) hc1 (by exact p1.mono (by repeat (first | exact hb | apply Below.drew))) (by exact q1.mono (by repeat (first | exact hb | apply Below.drew)))).mono ?_;rintro e w1 ⟨rfl,hb1⟩)
   all_goals
    go_wp2;go_roundw
    case rel=>
     refine⟨k+1,by omega,by go_num,Below.trans ?_ (hb1.mono ?_)⟩
     ·repeat (first | exact hb | apply Below.drew)
     ·exact hb.size
    case measure=>simp[intOf];omega
  ·go_wp2;go_ret
   exact⟨rfl,hb⟩
theorem eqExRec_any(x:ER)(a0 b0:Option Addr)(c0 e0:Nat)(w:World)(hn0:bj bQ x.fields)(p0:bD w 0 a0 x.fields)(q0:bD w 0 b0 x.fields) :
  Calls Tryz.prog 241 #[.agg #[.slice a0 x.fields.length c0],.agg #[.slice b0 x.fields.length e0]] w fun e w'=>e=.returned (.bool true)/\Below w.heap.size w w':=by
 have hbA:Below w.heap.size w ((w.alloc (.cells #[.slice a0 x.fields.length c0] 200)).alloc (.cells #[.slice b0 x.fields.length e0] 200)):=(b_r.alloc n_l _).alloc (by simp) _;have hX0:=au (al w #[.slice a0 x.fields.length c0] 200) (.cells #[.slice b0 x.fields.length e0] 200);have hY0:=al (w.alloc (.cells #[.slice a0 x.fields.length c0] 200)) #[.slice b0 x.fields.length e0] 200;simp only[World.size_alloc] at hY0
 go_enter Tryz.func241,Tryz.ntmps241
 go_wp2_with fail
 refine (eN _ _ x.fields _ _ _ hn0 (p0.mono hbA) (q0.mono hbA)).mono ?_;rintro e w1 ⟨rfl,hb⟩;have hB1:=hbA.trans (hb.mono hbA.size);have hX1:=ah hX0 hb;have hY1:=ah hY0 hb;clear hb;have x1:=ae hX1;have y1:=ae hY1;go_wp2;go_ret
 exact⟨rfl,hB1⟩
theorem eqExRecS_any(a a':Option Addr)(xs:List ER)(cap cap2:Nat)(w:World)(hx:bj cU xs)(hm:cj w 0 a xs)(hm2:cj w 0 a' xs) :
  Calls Tryz.prog 174 #[.slice a xs.length cap,.slice a' xs.length cap2] w fun e w'=>e=.returned (.bool true)/\Below w.heap.size w w':=by
 obtain⟨hn,hc⟩:=hx;go_enter Tryz.func174,Tryz.ntmps174
 go_wp2;go_loopw [5] (fun i wr=>∃(k:Nat),k<=xs.length/\i=.int .i64 k/\Below w.heap.size w wr) (fun i _=>xs.length-(intOf i).toNat)
 case atStart=>exact⟨0,by omega,rfl,Below.refl _ _⟩
 case round=>
  obtain⟨k,hk,rfl,hb⟩:=hrel;by_cases hlt:k<xs.length
  ·obtain⟨b,off,a0,c0,rfl,-,d0,p0⟩:=hm k hlt;obtain⟨b',off',b0,e0,rfl,-,k0,q0⟩:=hm2 k hlt;have d0':=cell_later hb d0;have k0':=cell_later hb k0;have hc0:=(hc xs[k] (g_m hlt));clear d0 k0;go_wp2;go_region_with (go_at_call 241;refine (eqExRec_any xs[k] _ _ _ _ _ hc0 (by exact p0.mono (by repeat (first | exact hb | apply Below.drew))) (by exact q0.mono (by repeat (first | exact hb | apply Below.drew)))).mono ?_;rintro e w1 ⟨rfl,hb1⟩)
   all_goals
    go_wp2;go_roundw
    case rel=>
     refine⟨k+1,by omega,by go_num,Below.trans ?_ (hb1.mono ?_)⟩
     ·repeat (first | exact hb | apply Below.drew)
     ·exact hb.size
    case measure=>simp[intOf];omega
  ·go_wp2;go_ret
   exact⟨rfl,hb⟩
theorem eqExit_any(x:Ex)(a0 b0:Option Addr)(c0 e0:Nat)(a1 b1:Option Addr)(c1 e1:Nat)(w:World)(hn0:bj cK x.frames)(p0:cg w 0 a0 x.frames)(q0:cg w 0 b0 x.frames)(hn1:bj cU x.recs)(p1:cj w 0 a1 x.recs)(q1:cj w 0 b1 x.recs) :
  Calls Tryz.prog 112 #[.agg #[.int .i64 x.kind,.int .i64 x.spec.f,.int .i64 x.spec.pc,.int .i64 x.spec.seen,.int .i64 x.spec.target,.slice a0 x.frames.length c0,.slice a1 x.recs.length c1],.agg #[.int .i64 x.kind,.int .i64 x.spec.f,.int .i64 x.spec.pc,.int .i64 x.spec.seen,.int .i64 x.spec.target,.slice b0 x.frames.length e0,.slice b1 x.recs.length e1]] w fun e w'=>e=.returned (.bool true)/\Below w.heap.size w w':=by
 have hbA:Below w.heap.size w ((w.alloc (.cells #[.int .i64 x.kind,.int .i64 x.spec.f,.int .i64 x.spec.pc,.int .i64 x.spec.seen,.int .i64 x.spec.target,.slice a0 x.frames.length c0,.slice a1 x.recs.length c1] 101)).alloc (.cells #[.int .i64 x.kind,.int .i64 x.spec.f,.int .i64 x.spec.pc,.int .i64 x.spec.seen,.int .i64 x.spec.target,.slice b0 x.frames.length e0,.slice b1 x.recs.length e1] 101)):=(b_r.alloc n_l _).alloc (by simp) _;have hX0:=au (al w #[.int .i64 x.kind,.int .i64 x.spec.f,.int .i64 x.spec.pc,.int .i64 x.spec.seen,.int .i64 x.spec.target,.slice a0 x.frames.length c0,.slice a1 x.recs.length c1] 101) (.cells #[.int .i64 x.kind,.int .i64 x.spec.f,.int .i64 x.spec.pc,.int .i64 x.spec.seen,.int .i64 x.spec.target,.slice b0 x.frames.length e0,.slice b1 x.recs.length e1] 101);have hY0:=al (w.alloc (.cells #[.int .i64 x.kind,.int .i64 x.spec.f,.int .i64 x.spec.pc,.int .i64 x.spec.seen,.int .i64 x.spec.target,.slice a0 x.frames.length c0,.slice a1 x.recs.length c1] 101)) #[.int .i64 x.kind,.int .i64 x.spec.f,.int .i64 x.spec.pc,.int .i64 x.spec.seen,.int .i64 x.spec.target,.slice b0 x.frames.length e0,.slice b1 x.recs.length e1] 101;simp only[World.size_alloc] at hY0
 go_enter Tryz.func112,Tryz.ntmps112
 go_wp2_with fail
 refine (eqSpec_same _ _ _ _ _).mono ?_;rintro e w1 ⟨rfl,hb⟩;have hB1:=hbA.trans (hb.mono hbA.size);have hX1:=ah hX0 hb;have hY1:=ah hY0 hb;clear hb;have x1:=ae hX1;have y1:=ae hY1;go_wp2_with fail
 refine (eqExFrameS_any _ _ x.frames _ _ _ hn0 (p0.mono hB1) (q0.mono hB1)).mono ?_;rintro e w2 ⟨rfl,hb⟩;have hB2:=hB1.trans (hb.mono hB1.size);have hX2:=ah hX1 hb;have hY2:=ah hY1 hb;clear x1 y1 hb;have x2:=ae hX2;have y2:=ae hY2;go_wp2_with fail
 refine (eqExRecS_any _ _ x.recs _ _ _ hn1 (p1.mono hB2) (q1.mono hB2)).mono ?_;rintro e w3 ⟨rfl,hb⟩;have hB3:=hB2.trans (hb.mono hB2.size);have hX3:=ah hX2 hb;have hY3:=ah hY2 hb;clear x2 y2 hb;have x3:=ae hX3;have y3:=ae hY3;go_wp2;go_ret
 exact⟨rfl,hB3⟩
theorem eqExitS_any(a a':Option Addr)(xs:List Ex)(cap cap2:Nat)(w:World)(hx:bj cC xs)(hm:cZ w 0 a xs)(hm2:cZ w 0 a' xs) :
  Calls Tryz.prog 62 #[.slice a xs.length cap,.slice a' xs.length cap2] w fun e w'=>e=.returned (.bool true)/\Below w.heap.size w w':=by
 obtain⟨hn,hc⟩:=hx;go_enter Tryz.func62,Tryz.ntmps62
 go_wp2;go_loopw [5] (fun i wr=>∃(k:Nat),k<=xs.length/\i=.int .i64 k/\Below w.heap.size w wr) (fun i _=>xs.length-(intOf i).toNat)
 case atStart=>exact⟨0,by omega,rfl,Below.refl _ _⟩
 case round=>
  obtain⟨k,hk,rfl,hb⟩:=hrel;by_cases hlt:k<xs.length
  ·obtain⟨b,off,a0,c0,a1,c1,rfl,-,d0,d1,d2,d3,d4,d5,d6,p0,p1⟩:=hm k hlt;obtain⟨b',off',b0,e0,b1,e1,rfl,-,k0,k1,k2,k3,k4,k5,k6,q0,q1⟩:=hm2 k hlt;have d0':=cell_later hb d0;have k0':=cell_later hb k0;have d1':=cell_later hb d1;have k1':=cell_later hb k1;have d2':=cell_later hb d2;have k2':=cell_later hb k2;have d3':=cell_later hb d3;have k3':=cell_later hb k3;have d4':=cell_later hb d4;have k4':=cell_later hb k4;have d5':=cell_later hb d5;have k5':=cell_later hb k5;have d6':=cell_later hb d6;have k6':=cell_later hb k6;have hc0:=(hc xs[k] (g_m hlt)).1;have hc1:=(hc xs[k] (g_m hlt)).2;clear d0 k0 d1 k1 d2 k2 d3 k3 d4 k4 d5 k5 d6 k6;go_wp2;go_region_with (go_at_call 112;refine (eqExit_any xs[k] _ _ _ _ _ _ _ _ _ hc0 (by exact p0.mono (by repeat (first | exact hb | apply Below.drew))) (by exact q0.mono (by repeat (first | exact hb | apply Below.drew))) hc1 (by exact p1.mono (by repeat (first | exact hb | apply Below.drew))) (by exact q1.mono (by repeat (first | exact hb | apply Below.drew)))).mono ?_;rintro e w1 ⟨rfl,hb1⟩)
   all_goals
    go_wp2;go_roundw
    case rel=>
     refine⟨k+1,by omega,by go_num,Below.trans ?_ (hb1.mono ?_)⟩
     ·repeat (first | exact hb | apply Below.drew)
     ·exact hb.size
    case measure=>simp[intOf];omega
  ·go_wp2;go_ret
   exact⟨rfl,hb⟩
theorem eqFOp_any(x:Fo)(w:World) :
  Calls Tryz.prog 111 #[.agg #[.int .i64 x.op,.int .i64 x.d,.int .i64 x.a,.int .i64 x.b,.int .i64 x.x,.int .i64 x.f,.int .i64 x.p,.int .i64 x.v.k,.int .i64 x.v.n,.string x.v.s],.agg #[.int .i64 x.op,.int .i64 x.d,.int .i64 x.a,.int .i64 x.b,.int .i64 x.x,.int .i64 x.f,.int .i64 x.p,.int .i64 x.v.k,.int .i64 x.v.n,.string x.v.s]] w fun e w'=>e=.returned (.bool true)/\Below w.heap.size w w':=by
 have hbA:Below w.heap.size w ((w.alloc (.cells #[.int .i64 x.op,.int .i64 x.d,.int .i64 x.a,.int .i64 x.b,.int .i64 x.x,.int .i64 x.f,.int .i64 x.p,.int .i64 x.v.k,.int .i64 x.v.n,.string x.v.s] 163)).alloc (.cells #[.int .i64 x.op,.int .i64 x.d,.int .i64 x.a,.int .i64 x.b,.int .i64 x.x,.int .i64 x.f,.int .i64 x.p,.int .i64 x.v.k,.int .i64 x.v.n,.string x.v.s] 163)):=(b_r.alloc n_l _).alloc (by simp) _;have hX0:=au (al w #[.int .i64 x.op,.int .i64 x.d,.int .i64 x.a,.int .i64 x.b,.int .i64 x.x,.int .i64 x.f,.int .i64 x.p,.int .i64 x.v.k,.int .i64 x.v.n,.string x.v.s] 163) (.cells #[.int .i64 x.op,.int .i64 x.d,.int .i64 x.a,.int .i64 x.b,.int .i64 x.x,.int .i64 x.f,.int .i64 x.p,.int .i64 x.v.k,.int .i64 x.v.n,.string x.v.s] 163);have hY0:=al (w.alloc (.cells #[.int .i64 x.op,.int .i64 x.d,.int .i64 x.a,.int .i64 x.b,.int .i64 x.x,.int .i64 x.f,.int .i64 x.p,.int .i64 x.v.k,.int .i64 x.v.n,.string x.v.s] 163)) #[.int .i64 x.op,.int .i64 x.d,.int .i64 x.a,.int .i64 x.b,.int .i64 x.x,.int .i64 x.f,.int .i64 x.p,.int .i64 x.v.k,.int .i64 x.v.n,.string x.v.s] 163;simp only[World.size_alloc] at hY0
 go_enter Tryz.func111,Tryz.ntmps111
 go_wp2_with fail
 refine (dw _ _ _ _).mono ?_;rintro e w1 ⟨rfl,hb⟩;have hB1:=hbA.trans (hb.mono hbA.size);have hX1:=ah hX0 hb;have hY1:=ah hY0 hb;clear hb;have x1:=ae hX1;have y1:=ae hY1;go_wp2;go_ret
 exact⟨rfl,hB1⟩
theorem eqFOpS_any(a a':Option Addr)(xs:List Fo)(cap cap2:Nat)(w:World)(hx:bj dx xs)(hm:cV w 0 a xs)(hm2:cV w 0 a' xs) :
  Calls Tryz.prog 61 #[.slice a xs.length cap,.slice a' xs.length cap2] w fun e w'=>e=.returned (.bool true)/\Below w.heap.size w w':=by
 obtain⟨hn,hc⟩:=hx;go_enter Tryz.func61,Tryz.ntmps61
 go_wp2;go_loopw [5] (fun i wr=>∃(k:Nat),k<=xs.length/\i=.int .i64 k/\Below w.heap.size w wr) (fun i _=>xs.length-(intOf i).toNat)
 case atStart=>exact⟨0,by omega,rfl,Below.refl _ _⟩
 case round=>
  obtain⟨k,hk,rfl,hb⟩:=hrel;by_cases hlt:k<xs.length
  ·obtain⟨b,off,rfl,-,d0,d1,d2,d3,d4,d5,d6,d7,d8,d9⟩:=hm k hlt;obtain⟨b',off',rfl,-,k0,k1,k2,k3,k4,k5,k6,k7,k8,k9⟩:=hm2 k hlt;have d0':=cell_later hb d0;have k0':=cell_later hb k0;have d1':=cell_later hb d1;have k1':=cell_later hb k1;have d2':=cell_later hb d2;have k2':=cell_later hb k2;have d3':=cell_later hb d3;have k3':=cell_later hb k3;have d4':=cell_later hb d4;have k4':=cell_later hb k4;have d5':=cell_later hb d5;have k5':=cell_later hb k5;have d6':=cell_later hb d6;have k6':=cell_later hb k6;have d7':=cell_later hb d7;have k7':=cell_later hb k7;have d8':=cell_later hb d8;have k8':=cell_later hb k8;have d9':=cell_later hb d9;have k9':=cell_later hb k9;clear d0 k0 d1 k1 d2 k2 d3 k3 d4 k4 d5 k5 d6 k6 d7 k7 d8 k8 d9 k9;go_wp2;go_region_with (go_at_call 111;refine (eqFOp_any xs[k] _).mono ?_;rintro e w1 ⟨rfl,hb1⟩)
   all_goals
    go_wp2;go_roundw
    case rel=>
     refine⟨k+1,by omega,by go_num,Below.trans ?_ (hb1.mono ?_)⟩
     ·repeat (first | exact hb | apply Below.drew)
     ·exact hb.size
    case measure=>simp[intOf];omega
  ·go_wp2;go_ret
   exact⟨rfl,hb⟩
theorem eqFast_any(oa ea ob eb:Option Addr)(oc ec oc2 ec2:Nat)(d:aR)(w:World)(hx:a8 d)(hm:br w 0 oa ea d)(hm2:br w 0 ob eb d) :
  Calls Tryz.prog 15 #[.agg (aK oa ea oc ec d),.agg (aK ob eb oc2 ec2 d)] w fun e w'=>e=.returned (.bool true)/\Below w.heap.size w w':=by
 have hbA:Below w.heap.size w ((w.alloc (.cells (aK oa ea oc ec d) 41)).alloc (.cells (aK ob eb oc2 ec2 d) 41)):=(b_r.alloc n_l _).alloc (by simp) _;have hX0:=au (al w (aK oa ea oc ec d) 41) (.cells (aK ob eb oc2 ec2 d) 41);have hY0:=al (w.alloc (.cells (aK oa ea oc ec d) 41)) (aK ob eb oc2 ec2 d) 41;simp only[World.size_alloc] at hY0
 unfold aK at hbA hX0 hY0 ⊢;go_enter Tryz.func15,Tryz.ntmps15
 go_wp2_with fail
 refine (eqFOpS_any _ _ d.ops _ _ _ hx.1 (hm.ops.mono hbA) (hm2.ops.mono hbA)).mono ?_;rintro e w1 ⟨rfl,hb⟩;have hB1:=hbA.trans (hb.mono hbA.size);have hX1:=ah hX0 hb;have hY1:=ah hY0 hb;have x1:=ae hX1;have y1:=ae hY1;clear hbA hX0 hY0 hb;go_wp2_with fail
 refine (eqExitS_any _ _ d.exits _ _ _ hx.2 (hm.exits.mono hB1) (hm2.exits.mono hB1)).mono ?_;rintro e w2 ⟨rfl,hb⟩;have hB2:=hB1.trans (hb.mono hB1.size);clear x1 y1 hX1 hY1 hB1 hb;go_wp2;go_ret
 exact⟨rfl,hB2⟩
end Go.Proofs.YtbjmgmmekmfjhaaGreatDoor
