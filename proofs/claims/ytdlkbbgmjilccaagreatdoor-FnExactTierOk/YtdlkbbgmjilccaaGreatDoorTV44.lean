/- TV44 -/
import Derived.Test.YtdlkbbgmjilccaaGreatDoorTV29
set_option maxHeartbeats 32000000
set_option maxRecDepth 100000
namespace Go.Proofs.YtdlkbbgmjilccaaGreatDoor
open Go.RowKit
section
variable {fs:List Fn} {a1 a2 oa ea:Option Addr} {nt c1 c2 oc ec K:Nat} {D:aH} {wK w:World} {b:Bool}
theorem sOp7_any(i:Nat)(hi:i<D.ops.length)(hop:D.ops[i].op=7)(his:(insD fs D.ops[i].f D.ops[i].p).isSome=true)(l:SLim fs D K wK a2 oa ea)(h:Chk a1 a2 oa ea nt c1 c2 oc ec fs.length K D wK b w) :
  Calls Tryz.prog 93 #[.pointer (some ⟨K,0,none⟩),.int .i64 (i:Nat)] w fun e w'=>e=.returned (.tuple #[])/\Chk a1 a2 oa ea nt c1 c2 oc ec fs.length K D wK (b || !pB (FopP fs D i D.ops[i])) w'/\Rk K w w':=by
 obtain⟨hmf,hmo,-⟩:=l.at h;obtain⟨fi,pi,hfi,hfe,hpe,hpi⟩:=bh his;obtain⟨bf,of,ca,cc,rfl,-,-,-,f3,-⟩:=hmf fi hfi;obtain⟨bo,oo,rfl,-,d0,d1,d2,d3,d4,d5,d6,d7,d8,d9⟩:=hmo i hi;have hsz:=l.fast.1.2 _ (n_l hi);obtain⟨x,hx⟩:∃x,x=D.ops[i]:=⟨_,rfl⟩;have HF:Hid (FopP fs D i D.ops[i]↔aA fs.length D i (sh 7 0) x.d/\aA fs.length D i (sh 7 1) x.a/\aA fs.length D i (sh 7 2) x.b/\aA fs.length D i (sh 7 3) x.x/\a6 fs.length (sh 7 4) x.v):=by rw[hx];exact bj 7 hop (by decide) (by decide) his
 rw[hop] at d0;rw[<-hx] at d1 d2 d3 d4 d5 d6 d7 d8 d9 hfe hpe hsz;have HX:Hid (x=D.ops[i]):=hx;have hsz':x.v.s.size<=1048576:=hsz;have z1:(i:Int)<(D.ops.length:Int):=by omega
 have k1:=h.cells;have hwk:K<w.heap.size:=aq h.blk;obtain⟨wA,hwA⟩:∃wA,wA=w.alloc (.cells #[.int .i64 7,.int .i64 x.d,.int .i64 x.a,.int .i64 x.b,.int .i64 x.x,.int .i64 x.f,.int .i64 x.p,.int .i64 x.v.k,.int .i64 x.v.n,.string x.v.s] 177):=⟨_,rfl⟩;have hbA:Below w.heap.size w wA:=by rw[hwA];exact gM.alloc nL _
 have hX0:wA.heap[w.heap.size]?=some (.cells #[.int .i64 7,.int .i64 x.d,.int .i64 x.a,.int .i64 x.b,.int .i64 x.x,.int .i64 x.f,.int .i64 x.p,.int .i64 x.v.k,.int .i64 x.v.n,.string x.v.s] 177 (0,0)):=by rw[hwA];exact ah _ _ _
 have hC0:=h.mono hbA;have hne:w.heap.size≠K:=by omega
 have HFE:Hid (x.f=(fi:Int)):=hfe;have HPE:Hid (x.p=(pi:Int)):=hpe;have f3A:=cell_later hbA f3;have HS:Hid (∀w',Below wA.heap.size wA w'->w'.cell? ⟨K,1,none⟩=some (.slice (some ⟨bf,of,none⟩) fs.length c2)/\w'.cell? ⟨w.heap.size,5,none⟩=some (.int .i64 (fi:Int))/\w'.cell? ⟨w.heap.size,6,none⟩=some (.int .i64 (pi:Int))/\w'.cell? ⟨bf,of+fi*3+2,none⟩=some (.slice ca fs[fi].code.length cc)):=fun w' q=>by
  have t5:=aa (ab hX0 q) 5;have t6:=aa (ab hX0 q) 6;rw[HFE.out] at t5;rw[HPE.out] at t6;exact⟨(hC0.mono q).cells 1,t5,t6,cell_later q f3A⟩
 have hcl:=l.code _ (n_l hfi);have hnf:=l.nf;have hw1:IntKind.i64.wrap ((fs.length:Int)-1)=(fs.length:Int)-1:=by rw[IntKind.wrap_i64];omega
 have hw2:IntKind.i64.wrap ((fs[fi].code.length:Int)-1)=(fs[fi].code.length:Int)-1:=by rw[IntKind.wrap_i64];omega
 have y0:(0:Int)<=(fi:Int):=by omega
 have y1:(fi:Int)<(fs.length:Int):=by omega
 have HC0:=aX wA (fi:Int) 0 ((fs.length:Int)-1) ⟨by omega,by omega⟩;have HC1:=aX wA (pi:Int) 0 ((fs[fi].code.length:Int)-1) ⟨by omega,by omega⟩;have HL:Hid (SLim fs D K wK (some ⟨bf,of,none⟩) (some ⟨bo,oo,none⟩) ea):=l;clear hfe hpe hx f3 f3A hop his hmf hmo hsz h;go_enter Tryz.func93,Tryz.ntmps93
 go_upto_region 1 with fail
 rw[<-hwA];clear hwA d0 d1 d2 d3 d4 d5 d6 d7 d8 d9 k1;refine au (by kernel_rfl) (by kernel_rfl) ?_
 iterate 9
  refine ae (v:=?_) (by kernel_rfl) ?_ ?_;rotate_left
  ·intro w' hC;obtain⟨j0,j1,j2,j3⟩:=HS.out w' hC;go_simp;try with_reducible rfl
  try simp only[Act.put,sAr,sZe,sSu]
 refine ae (v:=.bool true) (by kernel_rfl) ?_ ?_
 ·intro w' hC;go_simp;refine (HC0.out _ hC).mono ?_;rintro e w'' ⟨rfl,hb2⟩;exact⟨rfl,hC.trans (hb2.mono hC.size)⟩
 try simp only[Act.put,sAr,sZe,sSu]
 iterate 16
  refine ae (v:=?_) (by kernel_rfl) ?_ ?_;rotate_left
  ·intro w' hC;obtain⟨j0,j1,j2,j3⟩:=HS.out w' hC;go_simp;try with_reducible rfl
  try simp only[Act.put,sAr,sZe,sSu]
 refine ae (v:=.bool true) (by kernel_rfl) ?_ ?_
 ·intro w' hC;go_simp;refine (HC1.out _ hC).mono ?_;rintro e w'' ⟨rfl,hb2⟩;exact⟨rfl,hC.trans (hb2.mono hC.size)⟩
 try simp only[Act.put,sAr,sZe,sSu]
 iterate 2
  refine ae (v:=?_) (by kernel_rfl) ?_ ?_;rotate_left
  ·intro w' hC;obtain⟨j0,j1,j2,j3⟩:=HS.out w' hC;go_simp;try with_reducible rfl
  try simp only[Act.put,sAr,sZe,sSu]
 refine wpQuiet_nil ?_;intro w2 q2;have hC1:=hC0.mono q2;have hX1:=ab hX0 q2;have R1:Rk K w w2:=(Rk.of hbA).trans (Rk.of q2);clear HS HC0 HC1 hC0 hX0 hbA q2 hw2 y0 y1;have x1:=aa hX1;go_wp2_with fail
 refine (exits7_any _).mono ?_;rintro e w3 ⟨rfl,hw⟩;rw[hw];clear hw w3;go_wp2_with fail
 refine (aZ x.x HL.out.nex hC1).mono ?_;rintro e w11 ⟨rfl,hC2,hr⟩;have hX2:=ak hX1 hne hr;have R2:=R1.trans hr;clear x1 hX1 R1 hC1 hr;have x2:=aa hX2;go_wp2_with fail
 refine (aJ x.v hC2).mono ?_;rintro e w12 ⟨rfl,hC3,hr⟩;have hX3:=ak hX2 hne hr;have R3:=R2.trans hr;clear x2 hX2 R2 hC2 hr;have x3:=aa hX3;go_wp2_with fail
 refine (aN x.d HL.out.vals hC3).mono ?_;rintro e w13 ⟨rfl,hC4,hr⟩;have hX4:=ak hX3 hne hr;have R4:=R3.trans hr;clear x3 hX3 R3 hC3 hr;have x4:=aa hX4;go_wp2_with fail
 refine (aN x.a HL.out.vals hC4).mono ?_;rintro e w14 ⟨rfl,hC5,hr⟩;have hX5:=ak hX4 hne hr;have R5:=R4.trans hr;clear x4 hX4 R4 hC4 hr;have x5:=aa hX5;go_wp2_with fail
 refine (aN x.b HL.out.vals hC5).mono ?_;rintro e w15 ⟨rfl,hC6,hr⟩;have hX6:=ak hX5 hne hr;have R6:=R5.trans hr;clear x5 hX5 R5 hC5 hr;have x6:=aa hX6;go_wp2;go_end0
 refine⟨rfl,?_,R6⟩;refine (hC6.both.both.both.both).iff ?_;rw[HF.out];exact⟨fun ⟨s0,s1,s2,s3,s4⟩=>⟨s2,s3,s4,s0,s1⟩,fun ⟨s2,s3,s4,s0,s1⟩=>⟨s0,s1,s2,s3,s4⟩⟩
end
section
variable {fs:List Fn} {a1 a2 oa ea:Option Addr} {nt c1 c2 oc ec K:Nat} {D:aH} {wK w:World} {b:Bool}
theorem sOp1_any(i:Nat)(hi:i<D.ops.length)(hop:D.ops[i].op=1)(his:(insD fs D.ops[i].f D.ops[i].p).isSome=true)(l:SLim fs D K wK a2 oa ea)(h:Chk a1 a2 oa ea nt c1 c2 oc ec fs.length K D wK b w) :
  Calls Tryz.prog 93 #[.pointer (some ⟨K,0,none⟩),.int .i64 (i:Nat)] w fun e w'=>e=.returned (.tuple #[])/\Chk a1 a2 oa ea nt c1 c2 oc ec fs.length K D wK (b || !pB (FopP fs D i D.ops[i])) w'/\Rk K w w':=by
 obtain⟨hmf,hmo,-⟩:=l.at h;obtain⟨fi,pi,hfi,hfe,hpe,hpi⟩:=bh his;obtain⟨bf,of,ca,cc,rfl,-,-,-,f3,-⟩:=hmf fi hfi;obtain⟨bo,oo,rfl,-,d0,d1,d2,d3,d4,d5,d6,d7,d8,d9⟩:=hmo i hi;have hsz:=l.fast.1.2 _ (n_l hi);obtain⟨x,hx⟩:∃x,x=D.ops[i]:=⟨_,rfl⟩;have HF:Hid (FopP fs D i D.ops[i]↔aA fs.length D i (sh 1 0) x.d/\aA fs.length D i (sh 1 1) x.a/\aA fs.length D i (sh 1 2) x.b/\aA fs.length D i (sh 1 3) x.x/\a6 fs.length (sh 1 4) x.v):=by rw[hx];exact bj 1 hop (by decide) (by decide) his
 rw[hop] at d0;rw[<-hx] at d1 d2 d3 d4 d5 d6 d7 d8 d9 hfe hpe hsz;have HX:Hid (x=D.ops[i]):=hx;have hsz':x.v.s.size<=1048576:=hsz;have z1:(i:Int)<(D.ops.length:Int):=by omega
 have k1:=h.cells;have hwk:K<w.heap.size:=aq h.blk;obtain⟨wA,hwA⟩:∃wA,wA=w.alloc (.cells #[.int .i64 1,.int .i64 x.d,.int .i64 x.a,.int .i64 x.b,.int .i64 x.x,.int .i64 x.f,.int .i64 x.p,.int .i64 x.v.k,.int .i64 x.v.n,.string x.v.s] 177):=⟨_,rfl⟩;have hbA:Below w.heap.size w wA:=by rw[hwA];exact gM.alloc nL _
 have hX0:wA.heap[w.heap.size]?=some (.cells #[.int .i64 1,.int .i64 x.d,.int .i64 x.a,.int .i64 x.b,.int .i64 x.x,.int .i64 x.f,.int .i64 x.p,.int .i64 x.v.k,.int .i64 x.v.n,.string x.v.s] 177 (0,0)):=by rw[hwA];exact ah _ _ _
 have hC0:=h.mono hbA;have hne:w.heap.size≠K:=by omega
 have HFE:Hid (x.f=(fi:Int)):=hfe;have HPE:Hid (x.p=(pi:Int)):=hpe;have f3A:=cell_later hbA f3;have HS:Hid (∀w',Below wA.heap.size wA w'->w'.cell? ⟨K,1,none⟩=some (.slice (some ⟨bf,of,none⟩) fs.length c2)/\w'.cell? ⟨w.heap.size,5,none⟩=some (.int .i64 (fi:Int))/\w'.cell? ⟨w.heap.size,6,none⟩=some (.int .i64 (pi:Int))/\w'.cell? ⟨bf,of+fi*3+2,none⟩=some (.slice ca fs[fi].code.length cc)):=fun w' q=>by
  have t5:=aa (ab hX0 q) 5;have t6:=aa (ab hX0 q) 6;rw[HFE.out] at t5;rw[HPE.out] at t6;exact⟨(hC0.mono q).cells 1,t5,t6,cell_later q f3A⟩
 have hcl:=l.code _ (n_l hfi);have hnf:=l.nf;have hw1:IntKind.i64.wrap ((fs.length:Int)-1)=(fs.length:Int)-1:=by rw[IntKind.wrap_i64];omega
 have hw2:IntKind.i64.wrap ((fs[fi].code.length:Int)-1)=(fs[fi].code.length:Int)-1:=by rw[IntKind.wrap_i64];omega
 have y0:(0:Int)<=(fi:Int):=by omega
 have y1:(fi:Int)<(fs.length:Int):=by omega
 have HC0:=aX wA (fi:Int) 0 ((fs.length:Int)-1) ⟨by omega,by omega⟩;have HC1:=aX wA (pi:Int) 0 ((fs[fi].code.length:Int)-1) ⟨by omega,by omega⟩;have HL:Hid (SLim fs D K wK (some ⟨bf,of,none⟩) (some ⟨bo,oo,none⟩) ea):=l;clear hfe hpe hx f3 f3A hop his hmf hmo hsz h;go_enter Tryz.func93,Tryz.ntmps93
 go_upto_region 1 with fail
 rw[<-hwA];clear hwA d0 d1 d2 d3 d4 d5 d6 d7 d8 d9 k1;refine au (by kernel_rfl) (by kernel_rfl) ?_
 iterate 9
  refine ae (v:=?_) (by kernel_rfl) ?_ ?_;rotate_left
  ·intro w' hC;obtain⟨j0,j1,j2,j3⟩:=HS.out w' hC;go_simp;try with_reducible rfl
  try simp only[Act.put,sAr,sZe,sSu]
 refine ae (v:=.bool true) (by kernel_rfl) ?_ ?_
 ·intro w' hC;go_simp;refine (HC0.out _ hC).mono ?_;rintro e w'' ⟨rfl,hb2⟩;exact⟨rfl,hC.trans (hb2.mono hC.size)⟩
 try simp only[Act.put,sAr,sZe,sSu]
 iterate 16
  refine ae (v:=?_) (by kernel_rfl) ?_ ?_;rotate_left
  ·intro w' hC;obtain⟨j0,j1,j2,j3⟩:=HS.out w' hC;go_simp;try with_reducible rfl
  try simp only[Act.put,sAr,sZe,sSu]
 refine ae (v:=.bool true) (by kernel_rfl) ?_ ?_
 ·intro w' hC;go_simp;refine (HC1.out _ hC).mono ?_;rintro e w'' ⟨rfl,hb2⟩;exact⟨rfl,hC.trans (hb2.mono hC.size)⟩
 try simp only[Act.put,sAr,sZe,sSu]
 iterate 2
  refine ae (v:=?_) (by kernel_rfl) ?_ ?_;rotate_left
  ·intro w' hC;obtain⟨j0,j1,j2,j3⟩:=HS.out w' hC;go_simp;try with_reducible rfl
  try simp only[Act.put,sAr,sZe,sSu]
 refine wpQuiet_nil ?_;intro w2 q2;have hC1:=hC0.mono q2;have hX1:=ab hX0 q2;have R1:Rk K w w2:=(Rk.of hbA).trans (Rk.of q2);clear HS HC0 HC1 hC0 hX0 hbA q2 hw2 y0 y1;have x1:=aa hX1;go_wp2_with fail
 refine (exits1_any _).mono ?_;rintro e w3 ⟨rfl,hw⟩;rw[hw];clear hw w3;go_wp2_with fail
 refine (aD x.x hC1).mono ?_;rintro e w11 ⟨rfl,hC2,hr⟩;have hX2:=ak hX1 hne hr;have R2:=R1.trans hr;clear x1 hX1 R1 hC1 hr;have x2:=aa hX2;go_wp2_with fail
 refine (aN x.d HL.out.vals hC2).mono ?_;rintro e w12 ⟨rfl,hC3,hr⟩;have hX3:=ak hX2 hne hr;have R3:=R2.trans hr;clear x2 hX2 R2 hC2 hr;have x3:=aa hX3;go_wp2_with fail
 refine (aD x.a hC3).mono ?_;rintro e w13 ⟨rfl,hC4,hr⟩;have hX4:=ak hX3 hne hr;have R4:=R3.trans hr;clear x3 hX3 R3 hC3 hr;have x4:=aa hX4;go_wp2_with fail
 refine (aD x.b hC4).mono ?_;rintro e w14 ⟨rfl,hC5,hr⟩;have hX5:=ak hX4 hne hr;have R5:=R4.trans hr;clear x4 hX4 R4 hC4 hr;have x5:=aa hX5;go_wp2_with fail
 have HC:Hid (Chk a1 (some ⟨bf,of,none⟩) (some ⟨bo,oo,none⟩) ea nt c1 c2 oc ec fs.length K D wK _ w14):=hC5;have HXX:=hX5;have HS:Hid (∀w',Below w14.heap.size w14 w'->w'.cell? ⟨K,0,none⟩=some (.slice a1 nt c1)/\w'.cell? ⟨K,1,none⟩=some (.slice (some ⟨bf,of,none⟩) fs.length c2)/\w'.cell? ⟨w.heap.size,7,none⟩=some (.int .i64 x.v.k)/\w'.cell? ⟨w.heap.size,8,none⟩=some (.int .i64 x.v.n)/\w'.cell? ⟨w.heap.size,9,none⟩=some (.string x.v.s)):=fun w' q=>⟨(HC.out.mono q).cells 0,(HC.out.mono q).cells 1,aa (ab HXX q) 7,aa (ab HXX q) 8,aa (ab HXX q) 9⟩
 obtain⟨j0,j1,j2,j3,j4⟩:=HS.out _ gM;have q:Below w14.heap.size w14 w14.drew:=gM.drew;clear x5 hC5
 go_region_held3 (fun w'=>w'.cell? ⟨K,0,none⟩=some (.slice a1 nt c1)/\w'.cell? ⟨K,1,none⟩=some (.slice (some ⟨bf,of,none⟩) fs.length c2)/\w'.cell? ⟨w.heap.size,7,none⟩=some (.int .i64 x.v.k)/\w'.cell? ⟨w.heap.size,8,none⟩=some (.int .i64 x.v.n)/\w'.cell? ⟨w.heap.size,9,none⟩=some (.string x.v.s))
  (first | exact⟨j0,j1,j2,j3,j4⟩ | exact HS.out _ q | exact⟨hc.cells 0,hc.cells 1,aa (ak (ab HXX q) hne hr) 7,aa (ak (ab HXX q) hne hr) 8,aa (ak (ab HXX q) hne hr) 9⟩)
  (first
   | (go_at_call 86;refine (dP x.v.k x.v.n x.v.s 0 _ _ _ _ fs.length _ _ hnf hsz').mono ?_;rintro e wz ⟨rfl,kd⟩;have q:=q.trans (kd.mono q.size))
   | (go_at_call 136;refine (bN _ (HC.out.mono q)).mono ?_;rintro e wy ⟨rfl,hc,hr⟩))
 have hC6':=hc;have R6:=(R5.trans (Rk.of q)).trans hr;clear HS HC j0 j1 j2 j3 j4;have hC6:Chk a1 (some ⟨bf,of,none⟩) (some ⟨bo,oo,none⟩) ea nt c1 c2 oc ec fs.length K D wK ((((( b || !pB (x.x=0)) || !pB (Reg x.d D.vals)) || !pB (x.a=0)) || !pB (x.b=0)) || !pB (valB x.v.k x.v.n x.v.s fs.length 0=true)) wy:=by
  rw[show pB (valB x.v.k x.v.n x.v.s fs.length 0=true)=valB x.v.k x.v.n x.v.s fs.length 0 by simp[pB]]
  exact hC6'
 clear hC6';go_wp2;go_end0
 refine⟨rfl,?_,R6⟩;refine (hC6.both.both.both.both).iff ?_;rw[HF.out];exact⟨fun ⟨s0,s1,s2,s3,s4⟩=>⟨s1,s2,s3,s0,s4⟩,fun ⟨s1,s2,s3,s0,s4⟩=>⟨s0,s1,s2,s3,s4⟩⟩
end
section
variable {fs:List Fn} {a1 a2 oa ea:Option Addr} {nt c1 c2 oc ec K:Nat} {D:aH} {wK w:World} {b:Bool}
theorem sOpNo_any(i:Nat)(hi:i<D.ops.length)(hop:D.ops[i].op<1\/29<D.ops[i].op)(his:(insD fs D.ops[i].f D.ops[i].p).isSome=true)(l:SLim fs D K wK a2 oa ea)(h:Chk a1 a2 oa ea nt c1 c2 oc ec fs.length K D wK b w) :
  Calls Tryz.prog 93 #[.pointer (some ⟨K,0,none⟩),.int .i64 (i:Nat)] w fun e w'=>e=.returned (.tuple #[])/\Chk a1 a2 oa ea nt c1 c2 oc ec fs.length K D wK (b || !pB (FopP fs D i D.ops[i])) w'/\Rk K w w':=by
 obtain⟨hmf,hmo,-⟩:=l.at h;obtain⟨fi,pi,hfi,hfe,hpe,hpi⟩:=bh his;obtain⟨bf,of,ca,cc,rfl,-,-,-,f3,-⟩:=hmf fi hfi;obtain⟨bo,oo,rfl,-,d0,d1,d2,d3,d4,d5,d6,d7,d8,d9⟩:=hmo i hi;have hsz:=l.fast.1.2 _ (n_l hi);obtain⟨x,hx⟩:∃x,x=D.ops[i]:=⟨_,rfl⟩;have HF:Hid (¬FopP fs D i D.ops[i]):=fun q=>by have:=q.1;omega
 rw[<-hx] at d0 hop;rw[<-hx] at d1 d2 d3 d4 d5 d6 d7 d8 d9 hfe hpe hsz;have HX:Hid (x=D.ops[i]):=hx;have hsz':x.v.s.size<=1048576:=hsz;have z1:(i:Int)<(D.ops.length:Int):=by omega
 have k1:=h.cells;have hwk:K<w.heap.size:=aq h.blk;obtain⟨wA,hwA⟩:∃wA,wA=w.alloc (.cells #[.int .i64 x.op,.int .i64 x.d,.int .i64 x.a,.int .i64 x.b,.int .i64 x.x,.int .i64 x.f,.int .i64 x.p,.int .i64 x.v.k,.int .i64 x.v.n,.string x.v.s] 177):=⟨_,rfl⟩;have hbA:Below w.heap.size w wA:=by rw[hwA];exact gM.alloc nL _
 have hX0:wA.heap[w.heap.size]?=some (.cells #[.int .i64 x.op,.int .i64 x.d,.int .i64 x.a,.int .i64 x.b,.int .i64 x.x,.int .i64 x.f,.int .i64 x.p,.int .i64 x.v.k,.int .i64 x.v.n,.string x.v.s] 177 (0,0)):=by rw[hwA];exact ah _ _ _
 have hC0:=h.mono hbA;have hne:w.heap.size≠K:=by omega
 have HFE:Hid (x.f=(fi:Int)):=hfe;have HPE:Hid (x.p=(pi:Int)):=hpe;have f3A:=cell_later hbA f3;have HS:Hid (∀w',Below wA.heap.size wA w'->w'.cell? ⟨K,1,none⟩=some (.slice (some ⟨bf,of,none⟩) fs.length c2)/\w'.cell? ⟨w.heap.size,5,none⟩=some (.int .i64 (fi:Int))/\w'.cell? ⟨w.heap.size,6,none⟩=some (.int .i64 (pi:Int))/\w'.cell? ⟨bf,of+fi*3+2,none⟩=some (.slice ca fs[fi].code.length cc)):=fun w' q=>by
  have t5:=aa (ab hX0 q) 5;have t6:=aa (ab hX0 q) 6;rw[HFE.out] at t5;rw[HPE.out] at t6;exact⟨(hC0.mono q).cells 1,t5,t6,cell_later q f3A⟩
 have hcl:=l.code _ (n_l hfi);have hnf:=l.nf;have hw1:IntKind.i64.wrap ((fs.length:Int)-1)=(fs.length:Int)-1:=by rw[IntKind.wrap_i64];omega
 have hw2:IntKind.i64.wrap ((fs[fi].code.length:Int)-1)=(fs[fi].code.length:Int)-1:=by rw[IntKind.wrap_i64];omega
 have y0:(0:Int)<=(fi:Int):=by omega
 have y1:(fi:Int)<(fs.length:Int):=by omega
 have HC0:=aX wA (fi:Int) 0 ((fs.length:Int)-1) ⟨by omega,by omega⟩;have HC1:=aX wA (pi:Int) 0 ((fs[fi].code.length:Int)-1) ⟨by omega,by omega⟩;have HL:Hid (SLim fs D K wK (some ⟨bf,of,none⟩) (some ⟨bo,oo,none⟩) ea):=l;have HOP:Hid (x.op<1\/29<x.op):=hop;clear hfe hpe hx f3 f3A hop his hmf hmo hsz h;go_enter Tryz.func93,Tryz.ntmps93
 go_upto_region 1 with fail
 rw[<-hwA];clear hwA d0 d1 d2 d3 d4 d5 d6 d7 d8 d9 k1;refine au (by kernel_rfl) (by kernel_rfl) ?_
 iterate 9
  refine ae (v:=?_) (by kernel_rfl) ?_ ?_;rotate_left
  ·intro w' hC;obtain⟨j0,j1,j2,j3⟩:=HS.out w' hC;go_simp;try with_reducible rfl
  try simp only[Act.put,sAr,sZe,sSu]
 refine ae (v:=.bool true) (by kernel_rfl) ?_ ?_
 ·intro w' hC;go_simp;refine (HC0.out _ hC).mono ?_;rintro e w'' ⟨rfl,hb2⟩;exact⟨rfl,hC.trans (hb2.mono hC.size)⟩
 try simp only[Act.put,sAr,sZe,sSu]
 iterate 16
  refine ae (v:=?_) (by kernel_rfl) ?_ ?_;rotate_left
  ·intro w' hC;obtain⟨j0,j1,j2,j3⟩:=HS.out w' hC;go_simp;try with_reducible rfl
  try simp only[Act.put,sAr,sZe,sSu]
 refine ae (v:=.bool true) (by kernel_rfl) ?_ ?_
 ·intro w' hC;go_simp;refine (HC1.out _ hC).mono ?_;rintro e w'' ⟨rfl,hb2⟩;exact⟨rfl,hC.trans (hb2.mono hC.size)⟩
 try simp only[Act.put,sAr,sZe,sSu]
 iterate 2
  refine ae (v:=?_) (by kernel_rfl) ?_ ?_;rotate_left
  ·intro w' hC;obtain⟨j0,j1,j2,j3⟩:=HS.out w' hC;go_simp;try with_reducible rfl
  try simp only[Act.put,sAr,sZe,sSu]
 refine wpQuiet_nil ?_;intro w2 q2;have hC1:=hC0.mono q2;have hX1:=ab hX0 q2;have R1:Rk K w w2:=(Rk.of hbA).trans (Rk.of q2);clear HS HC0 HC1 hC0 hX0 hbA q2 hw2 y0 y1;have x1:=aa hX1;go_wp2_with fail
 refine (exitsNo_any _ _ HOP.out).mono ?_;rintro e w3 ⟨rfl,hw⟩;rw[hw];clear hw w3;go_wp2_with fail
 refine (aD x.x hC1).mono ?_;rintro e w11 ⟨rfl,hC2,hr⟩;have hX2:=ak hX1 hne hr;have R2:=R1.trans hr;clear x1 hX1 R1 hC1 hr;have x2:=aa hX2;have hop:=HOP.out;have n1:(x.op != 1)=true:=by simp;omega
 have n3:(x.op != 3)=true:=by simp;omega
 clear hop;go_wp2_with fail
 refine (aJ x.v hC2).mono ?_;rintro e w12 ⟨rfl,hC3,hr⟩;have hX3:=ak hX2 hne hr;have R3:=R2.trans hr;clear x2 hX2 R2 hC2 hr n1 n3;have x3:=aa hX3;have k3:=hC3.cells;have k4:=hC3.free;have hop:=HOP.out;have g1:(x.op == 1)=false:=by simp;omega
 have g2:(x.op == 2)=false:=by simp;omega
 have g3:(x.op == 3)=false:=by simp;omega
 have g4:(x.op == 4)=false:=by simp;omega
 have g5:(x.op == 5)=false:=by simp;omega
 have g6:(x.op == 6)=false:=by simp;omega
 have g7:(x.op == 7)=false:=by simp;omega
 have g8:(x.op == 8)=false:=by simp;omega
 have g9:(x.op == 9)=false:=by simp;omega
 have g10:(x.op == 10)=false:=by simp;omega
 have g11:(x.op == 11)=false:=by simp;omega
 have g12:(x.op == 12)=false:=by simp;omega
 have g13:(x.op == 13)=false:=by simp;omega
 have g14:(x.op == 14)=false:=by simp;omega
 have g15:(x.op == 15)=false:=by simp;omega
 have g16:(x.op == 16)=false:=by simp;omega
 have g17:(x.op == 17)=false:=by simp;omega
 have g18:(x.op == 18)=false:=by simp;omega
 have g19:(x.op == 19)=false:=by simp;omega
 have g20:(x.op == 20)=false:=by simp;omega
 have g21:(x.op == 21)=false:=by simp;omega
 have g22:(x.op == 22)=false:=by simp;omega
 have g23:(x.op == 23)=false:=by simp;omega
 have g24:(x.op == 24)=false:=by simp;omega
 have g25:(x.op == 25)=false:=by simp;omega
 have g26:(x.op == 26)=false:=by simp;omega
 have g27:(x.op == 27)=false:=by simp;omega
 have g28:(x.op == 28)=false:=by simp;omega
 have g29:(x.op == 29)=false:=by simp;omega
 clear hop;go_wp2;go_end0
 exact⟨rfl,(hC3.set true).no HF.out,R3.set _⟩
theorem sOpBad_any(i:Nat)(hi:i<D.ops.length)(his:¬(insD fs D.ops[i].f D.ops[i].p).isSome=true)(l:SLim fs D K wK a2 oa ea)(h:Chk a1 a2 oa ea nt c1 c2 oc ec fs.length K D wK b w) :
  Calls Tryz.prog 93 #[.pointer (some ⟨K,0,none⟩),.int .i64 (i:Nat)] w fun e w'=>e=.returned (.tuple #[])/\Chk a1 a2 oa ea nt c1 c2 oc ec fs.length K D wK (b || !pB (FopP fs D i D.ops[i])) w'/\Rk K w w':=by
 obtain⟨hmf,hmo,-⟩:=l.at h;obtain⟨bo,oo,rfl,-,d0,d1,d2,d3,d4,d5,d6,d7,d8,d9⟩:=hmo i hi;have HF:Hid (¬FopP fs D i D.ops[i]):=fun q=>his q.2.1
 obtain⟨x,hx⟩:∃x,x=D.ops[i]:=⟨_,rfl⟩;rw[<-hx] at d0 d1 d2 d3 d4 d5 d6 d7 d8 d9 his;have HX:Hid (x=D.ops[i]):=hx;have z1:(i:Int)<(D.ops.length:Int):=by omega
 have k1:=h.cells;obtain⟨wA,hwA⟩:∃wA,wA=w.alloc (.cells #[.int .i64 x.op,.int .i64 x.d,.int .i64 x.a,.int .i64 x.b,.int .i64 x.x,.int .i64 x.f,.int .i64 x.p,.int .i64 x.v.k,.int .i64 x.v.n,.string x.v.s] 177):=⟨_,rfl⟩;have hbA:Below w.heap.size w wA:=by rw[hwA];exact gM.alloc nL _
 have hX0:wA.heap[w.heap.size]?=some (.cells #[.int .i64 x.op,.int .i64 x.d,.int .i64 x.a,.int .i64 x.b,.int .i64 x.x,.int .i64 x.f,.int .i64 x.p,.int .i64 x.v.k,.int .i64 x.v.n,.string x.v.s] 177 (0,0)):=by rw[hwA];exact ah _ _ _
 have hC0:=h.mono hbA;have hnf:=l.nf;have hw1:IntKind.i64.wrap ((fs.length:Int)-1)=(fs.length:Int)-1:=by rw[IntKind.wrap_i64];omega
 by_cases hf:Reg x.f fs.length
 case neg=>
  have HS:Hid (∀w',Below wA.heap.size wA w'->w'.cell? ⟨K,1,none⟩=some (.slice a2 fs.length c2)/\w'.cell? ⟨w.heap.size,5,none⟩=some (.int .i64 x.f)):=fun w' q=>⟨(hC0.mono q).cells 1,aa (ab hX0 q) 5⟩
  have HC0:Hid (∀w',Below wA.heap.size wA w'->Calls Tryz.prog 45 #[.int .i64 x.f,.int .i64 0,.int .i64 ((fs.length:Int)-1)] w' fun e w''=>e=.returned (.bool false)/\Below w'.heap.size w' w''):=fun w' _=>(a8 _ _ _ _).mono fun _ _ q=>⟨by rw[q.1,dr,aw hf],by rw[q.2];exact Below.refl _ _⟩
  clear hx hmf hmo h his hf;go_enter Tryz.func93,Tryz.ntmps93
  go_upto_region 1 with fail
  rw[<-hwA];clear hwA d0 d1 d2 d3 d4 d5 d6 d7 d8 d9 k1;refine au (by kernel_rfl) (by kernel_rfl) ?_
  iterate 9
   refine ae (v:=?_) (by kernel_rfl) ?_ ?_;rotate_left
   ·intro w' hC;obtain⟨j0,j1⟩:=HS.out w' hC;go_simp;try with_reducible rfl
   try simp only[Act.put,sAr,sZe,sSu]
  refine ae (v:=.bool false) (by kernel_rfl) ?_ ?_
  ·intro w' hC;go_simp;refine (HC0.out _ hC).mono ?_;rintro e w'' ⟨rfl,hb2⟩;exact⟨rfl,hC.trans (hb2.mono hC.size)⟩
  try simp only[Act.put,sAr,sZe,sSu]
  iterate 2
   refine ae (v:=?_) (by kernel_rfl) ?_ ?_;rotate_left
   ·intro w' hC;obtain⟨j0,j1⟩:=HS.out w' hC;go_simp;try with_reducible rfl
   try simp only[Act.put,sAr,sZe,sSu]
  iterate 16 go_big_quiet_skip
  refine ae (v:=?_) (by kernel_rfl) ?_ ?_;rotate_left
  ·intro w' hC;obtain⟨j0,j1⟩:=HS.out w' hC;go_simp;try with_reducible rfl
  try simp only[Act.put,sAr,sZe,sSu]
  refine wpQuiet_nil ?_;intro w2 q2;have hC1:=hC0.mono q2;have k3:=hC1.cells;have k4:=hC1.free;go_wp2
  (try simp only[Exit.inBlock,Exit.then])
  refine bodyPost_ret (results_none rfl _ _ _) rfl ?_;exact⟨rfl,(hC1.set true).no HF.out,((Rk.of hbA).trans (Rk.of q2)).set _⟩
 obtain⟨fi,hfe⟩:∃fi:Nat,x.f=fi:=⟨x.f.toNat,by have:=hf.1;omega⟩;have hfi:fi<fs.length:=by have:=hf.2;omega
 obtain⟨bf,of,ca,cc,rfl,-,-,-,f3,-⟩:=hmf fi hfi;have hpn:¬Reg x.p fs[fi].code.length:=fun q=>by
  obtain⟨pj,hpj⟩:∃pj:Nat,x.p=pj:=⟨x.p.toNat,by have:=q.1;omega⟩;have hj:pj<fs[fi].code.length:=by have:=q.2;omega
  rw[hfe,hpj,dF hfi hj] at his;exact his rfl
 have HFE:Hid (x.f=(fi:Int)):=hfe;have f3A:=cell_later hbA f3;have HS:Hid (∀w',Below wA.heap.size wA w'->w'.cell? ⟨K,1,none⟩=some (.slice (some ⟨bf,of,none⟩) fs.length c2)/\w'.cell? ⟨w.heap.size,5,none⟩=some (.int .i64 (fi:Int))/\w'.cell? ⟨w.heap.size,6,none⟩=some (.int .i64 x.p)/\w'.cell? ⟨bf,of+fi*3+2,none⟩=some (.slice ca fs[fi].code.length cc)):=fun w' q=>by
  have t5:=aa (ab hX0 q) 5;rw[HFE.out] at t5;exact⟨(hC0.mono q).cells 1,t5,aa (ab hX0 q) 6,cell_later q f3A⟩
 have hcl:=l.code _ (n_l hfi);have hw2:IntKind.i64.wrap ((fs[fi].code.length:Int)-1)=(fs[fi].code.length:Int)-1:=by rw[IntKind.wrap_i64];omega
 have y0:(0:Int)<=(fi:Int):=by omega
 have y1:(fi:Int)<(fs.length:Int):=by omega
 have HC0:=aX wA (fi:Int) 0 ((fs.length:Int)-1) ⟨by omega,by omega⟩;have HC1:Hid (∀w',Below wA.heap.size wA w'->Calls Tryz.prog 45 #[.int .i64 x.p,.int .i64 0,.int .i64 ((fs[fi].code.length:Int)-1)] w' fun e w''=>e=.returned (.bool false)/\Below w'.heap.size w' w''):=fun w' _=>(a8 _ _ _ _).mono fun _ _ q=>⟨by rw[q.1,dr,aw hpn],by rw[q.2];exact Below.refl _ _⟩
 clear hfe hx f3 f3A his hmf hmo h hf hpn;go_enter Tryz.func93,Tryz.ntmps93
 go_upto_region 1 with fail
 rw[<-hwA];clear hwA d0 d1 d2 d3 d4 d5 d6 d7 d8 d9 k1;refine au (by kernel_rfl) (by kernel_rfl) ?_
 iterate 9
  refine ae (v:=?_) (by kernel_rfl) ?_ ?_;rotate_left
  ·intro w' hC;obtain⟨j0,j1,j2,j3⟩:=HS.out w' hC;go_simp;try with_reducible rfl
  try simp only[Act.put,sAr,sZe,sSu]
 refine ae (v:=.bool true) (by kernel_rfl) ?_ ?_
 ·intro w' hC;go_simp;refine (HC0.out _ hC).mono ?_;rintro e w'' ⟨rfl,hb2⟩;exact⟨rfl,hC.trans (hb2.mono hC.size)⟩
 try simp only[Act.put,sAr,sZe,sSu]
 iterate 16
  refine ae (v:=?_) (by kernel_rfl) ?_ ?_;rotate_left
  ·intro w' hC;obtain⟨j0,j1,j2,j3⟩:=HS.out w' hC;go_simp;try with_reducible rfl
  try simp only[Act.put,sAr,sZe,sSu]
 refine ae (v:=.bool false) (by kernel_rfl) ?_ ?_
 ·intro w' hC;go_simp;refine (HC1.out _ hC).mono ?_;rintro e w'' ⟨rfl,hb2⟩;exact⟨rfl,hC.trans (hb2.mono hC.size)⟩
 try simp only[Act.put,sAr,sZe,sSu]
 iterate 2
  refine ae (v:=?_) (by kernel_rfl) ?_ ?_;rotate_left
  ·intro w' hC;obtain⟨j0,j1,j2,j3⟩:=HS.out w' hC;go_simp;try with_reducible rfl
  try simp only[Act.put,sAr,sZe,sSu]
 refine wpQuiet_nil ?_;intro w2 q2;have hC1:=hC0.mono q2;have k3:=hC1.cells;have k4:=hC1.free;go_wp2
 (try simp only[Exit.inBlock,Exit.then])
 refine bodyPost_ret (results_none rfl _ _ _) rfl ?_;exact⟨rfl,(hC1.set true).no HF.out,((Rk.of hbA).trans (Rk.of q2)).set _⟩
end
end Go.Proofs.YtdlkbbgmjilccaaGreatDoor
