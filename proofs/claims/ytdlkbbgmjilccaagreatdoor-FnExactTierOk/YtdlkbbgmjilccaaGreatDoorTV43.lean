/- TV43 -/
import Derived.Test.YtdlkbbgmjilccaaGreatDoorTV29
set_option maxHeartbeats 32000000
set_option maxRecDepth 100000
namespace Go.Proofs.YtdlkbbgmjilccaaGreatDoor
open Go.RowKit
section
variable {fs:List Fn} {a1 a2 oa ea:Option Addr} {nt c1 c2 oc ec K:Nat} {D:aH} {wK w:World} {b:Bool}
theorem sOp3_any(i:Nat)(hi:i<D.ops.length)(hop:D.ops[i].op=3)(his:(insD fs D.ops[i].f D.ops[i].p).isSome=true)(l:SLim fs D K wK a2 oa ea)(h:Chk a1 a2 oa ea nt c1 c2 oc ec fs.length K D wK b w) :
  Calls Tryz.prog 93 #[.pointer (some ⟨K,0,none⟩),.int .i64 (i:Nat)] w fun e w'=>e=.returned (.tuple #[])/\Chk a1 a2 oa ea nt c1 c2 oc ec fs.length K D wK (b || !pB (FopP fs D i D.ops[i])) w'/\Rk K w w':=by
 obtain⟨hmf,hmo,-⟩:=l.at h;obtain⟨fi,pi,hfi,hfe,hpe,hpi⟩:=bh his;obtain⟨bf,of,ca,cc,rfl,-,-,-,f3,-⟩:=hmf fi hfi;obtain⟨bo,oo,rfl,-,d0,d1,d2,d3,d4,d5,d6,d7,d8,d9⟩:=hmo i hi;have hsz:=l.fast.1.2 _ (n_l hi);obtain⟨x,hx⟩:∃x,x=D.ops[i]:=⟨_,rfl⟩;have HF:Hid (FopP fs D i D.ops[i]↔aA fs.length D i (sh 3 0) x.d/\aA fs.length D i (sh 3 1) x.a/\aA fs.length D i (sh 3 2) x.b/\aA fs.length D i (sh 3 3) x.x/\a6 fs.length (sh 3 4) x.v):=by rw[hx];exact bj 3 hop (by decide) (by decide) his
 rw[hop] at d0;rw[<-hx] at d1 d2 d3 d4 d5 d6 d7 d8 d9 hfe hpe hsz;have HX:Hid (x=D.ops[i]):=hx;have hsz':x.v.s.size<=1048576:=hsz;have z1:(i:Int)<(D.ops.length:Int):=by omega
 have k1:=h.cells;have hwk:K<w.heap.size:=aq h.blk;obtain⟨wA,hwA⟩:∃wA,wA=w.alloc (.cells #[.int .i64 3,.int .i64 x.d,.int .i64 x.a,.int .i64 x.b,.int .i64 x.x,.int .i64 x.f,.int .i64 x.p,.int .i64 x.v.k,.int .i64 x.v.n,.string x.v.s] 177):=⟨_,rfl⟩;have hbA:Below w.heap.size w wA:=by rw[hwA];exact gM.alloc nL _
 have hX0:wA.heap[w.heap.size]?=some (.cells #[.int .i64 3,.int .i64 x.d,.int .i64 x.a,.int .i64 x.b,.int .i64 x.x,.int .i64 x.f,.int .i64 x.p,.int .i64 x.v.k,.int .i64 x.v.n,.string x.v.s] 177 (0,0)):=by rw[hwA];exact ah _ _ _
 have hC0:=h.mono hbA;have hne:w.heap.size≠K:=by omega
 have HFE:Hid (x.f=(fi:Int)):=hfe;have HPE:Hid (x.p=(pi:Int)):=hpe;have f3A:=cell_later hbA f3;have HS:Hid (∀w',Below wA.heap.size wA w'->w'.cell? ⟨K,1,none⟩=some (.slice (some ⟨bf,of,none⟩) fs.length c2)/\w'.cell? ⟨w.heap.size,5,none⟩=some (.int .i64 (fi:Int))/\w'.cell? ⟨w.heap.size,6,none⟩=some (.int .i64 (pi:Int))/\w'.cell? ⟨bf,of+fi*3+2,none⟩=some (.slice ca fs[fi].code.length cc)):=fun w' q=>by
  have t5:=aa (ab hX0 q) 5;have t6:=aa (ab hX0 q) 6;rw[HFE.out] at t5;rw[HPE.out] at t6;exact⟨(hC0.mono q).cells 1,t5,t6,cell_later q f3A⟩
 have hcl:=l.code _ (n_l hfi);have hnf:=l.nf;have hw1:IntKind.i64.wrap ((fs.length:Int)-1)=(fs.length:Int)-1:=by rw[IntKind.wrap_i64];omega
 have hw2:IntKind.i64.wrap ((fs[fi].code.length:Int)-1)=(fs[fi].code.length:Int)-1:=by rw[IntKind.wrap_i64];omega
 have y0:(0:Int)<=(fi:Int):=by omega
 have y1:(fi:Int)<(fs.length:Int):=by omega
 have HC0:=aX wA (fi:Int) 0 ((fs.length:Int)-1) ⟨by omega,by omega⟩;have HC1:=aX wA (pi:Int) 0 ((fs[fi].code.length:Int)-1) ⟨by omega,by omega⟩;have HL:Hid (SLim fs D K wK (some ⟨bf,of,none⟩) (some ⟨bo,oo,none⟩) ea):=l;clear hfe hpe hx f3 f3A hop his hmf hmo hsz h;go_enter Tryz.func93,Tryz.ntmps93
 go_upto_region 1 with fail
 rw[<-hwA];clear hwA d0 d1 d2 d3 d4 d5 d6 d7 d8 d9 k1;refine au (by kernel_rfl) (by kernel_rfl) ?_
 iterate 9
  refine ae (v:=?_) (by kernel_rfl) ?_ ?_;rotate_left
  ·intro w' hC;obtain⟨j0,j1,j2,j3⟩:=HS.out w' hC;go_simp;try with_reducible rfl
  try simp only[Act.put,sAr,sZe,sSu]
 refine ae (v:=.bool true) (by kernel_rfl) ?_ ?_
 ·intro w' hC;go_simp;refine (HC0.out _ hC).mono ?_;rintro e w'' ⟨rfl,hb2⟩;exact⟨rfl,hC.trans (hb2.mono hC.size)⟩
 try simp only[Act.put,sAr,sZe,sSu]
 iterate 16
  refine ae (v:=?_) (by kernel_rfl) ?_ ?_;rotate_left
  ·intro w' hC;obtain⟨j0,j1,j2,j3⟩:=HS.out w' hC;go_simp;try with_reducible rfl
  try simp only[Act.put,sAr,sZe,sSu]
 refine ae (v:=.bool true) (by kernel_rfl) ?_ ?_
 ·intro w' hC;go_simp;refine (HC1.out _ hC).mono ?_;rintro e w'' ⟨rfl,hb2⟩;exact⟨rfl,hC.trans (hb2.mono hC.size)⟩
 try simp only[Act.put,sAr,sZe,sSu]
 iterate 2
  refine ae (v:=?_) (by kernel_rfl) ?_ ?_;rotate_left
  ·intro w' hC;obtain⟨j0,j1,j2,j3⟩:=HS.out w' hC;go_simp;try with_reducible rfl
  try simp only[Act.put,sAr,sZe,sSu]
 refine wpQuiet_nil ?_;intro w2 q2;have hC1:=hC0.mono q2;have hX1:=ab hX0 q2;have R1:Rk K w w2:=(Rk.of hbA).trans (Rk.of q2);clear HS HC0 HC1 hC0 hX0 hbA q2 hw2 y0 y1;have x1:=aa hX1;go_wp2_with fail
 refine (exits3_any _).mono ?_;rintro e w3 ⟨rfl,hw⟩;rw[hw];clear hw w3;go_wp2_with fail
 refine (aD x.x hC1).mono ?_;rintro e w11 ⟨rfl,hC2,hr⟩;have hX2:=ak hX1 hne hr;have R2:=R1.trans hr;clear x1 hX1 R1 hC1 hr;have x2:=aa hX2;go_wp2_with fail
 refine (bm x.d HL.out.nums hC2).mono ?_;rintro e w12 ⟨rfl,hC3,hr⟩;have hX3:=ak hX2 hne hr;have R3:=R2.trans hr;clear x2 hX2 R2 hC2 hr;have x3:=aa hX3;go_wp2_with fail
 refine (aD x.a hC3).mono ?_;rintro e w13 ⟨rfl,hC4,hr⟩;have hX4:=ak hX3 hne hr;have R4:=R3.trans hr;clear x3 hX3 R3 hC3 hr;have x4:=aa hX4;go_wp2_with fail
 refine (aD x.b hC4).mono ?_;rintro e w14 ⟨rfl,hC5,hr⟩;have hX5:=ak hX4 hne hr;have R5:=R4.trans hr;clear x4 hX4 R4 hC4 hr;have x5:=aa hX5;go_wp2_with fail
 by_cases hk1:x.v.k=1
 case neg=>
  have hk2:(x.v.k == 1)=false:=by simpa using hk1
  have HK1:Hid (¬x.v.k=1):=hk1;have HC:Hid (Chk a1 (some ⟨bf,of,none⟩) (some ⟨bo,oo,none⟩) ea nt c1 c2 oc ec fs.length K D wK _ w14):=hC5;have hX6:=ab hX5 gM.drew;clear hk1 hC5 x5;have hh:(fun w':World=>w'.cell? ⟨w.heap.size,7,none⟩=some (.int .i64 x.v.k)) _:=aa hX6 7;refine fy (fun w':World=>w'.cell? ⟨w.heap.size,7,none⟩=some (.int .i64 x.v.k)) (by kernel_rfl) ?_;refine aF (i:=0) (oi:=_) (v:=?_) rfl (by kernel_rfl) (by kernel_rfl) (by kernel_rfl) (fun _ _ _ h=>h) (by kernel_rfl) ?_ hh ?_;rotate_left
  ·intro w' hSw;have s0:=hSw;go_simp;try with_reducible rfl
  simp only[Act.put,List.setIfInBounds_toArray]
  refine aF (i:=1) (oi:=_) (v:=?_) rfl (by kernel_rfl) (by kernel_rfl) (by kernel_rfl) (fun _ _ _ h=>h) (by kernel_rfl) ?_ hh ?_;rotate_left
  ·intro w' hSw;have s0:=hSw;go_simp;try with_reducible rfl
  simp only[Act.put]
  refine aF (i:=2) (oi:=_) (v:=?_) rfl (by kernel_rfl) (by kernel_rfl) (by kernel_rfl) (fun _ _ _ h=>h) (by kernel_rfl) ?_ hh ?_;rotate_left
  ·intro w' hSw;have s0:=hSw;go_simp;try with_reducible rfl
  simp only[Act.put]
  refine aF (i:=3) (oi:=_) (v:=?_) rfl (by kernel_rfl) (by kernel_rfl) (by kernel_rfl) (fun _ _ _ h=>h) (by kernel_rfl) ?_ hh ?_;rotate_left
  ·intro w' hSw;have s0:=hSw;go_simp;try with_reducible rfl
  simp only[Act.put]
  refine aF (i:=4) (oi:=_) (v:=.bool false) rfl (by kernel_rfl) (by kernel_rfl) (by kernel_rfl) (fun _ _ _ h=>h) (by kernel_rfl) ?_ hh ?_
  ·intro w' hSw;have s0:=hSw;go_simp;try simp only[hk2]
  simp only[Act.put]
  refine aF (i:=5) (oi:=_) (v:=?_) rfl (by kernel_rfl) (by kernel_rfl) (by kernel_rfl) (fun _ _ _ h=>h) (by kernel_rfl) ?_ hh ?_;rotate_left
  ·intro w' hSw;have s0:=hSw;go_simp;try with_reducible rfl
  simp only[Act.put]
  refine ba (i:=6) (oi:=_) rfl (by kernel_rfl) (by kernel_rfl) (by kernel_rfl) (fun _ _ _ h=>h) (by kernel_rfl) hh ?_;simp only[Act.put]
  refine ba (i:=7) (oi:=_) rfl (by kernel_rfl) (by kernel_rfl) (by kernel_rfl) (fun _ _ _ h=>h) (by kernel_rfl) hh ?_;simp only[Act.put]
  refine ba (i:=8) (oi:=_) rfl (by kernel_rfl) (by kernel_rfl) (by kernel_rfl) (fun _ _ _ h=>h) (by kernel_rfl) hh ?_;simp only[Act.put]
  refine ba (i:=9) (oi:=_) rfl (by kernel_rfl) (by kernel_rfl) (by kernel_rfl) (fun _ _ _ h=>h) (by kernel_rfl) hh ?_;simp only[Act.put]
  refine ba (i:=10) (oi:=_) rfl (by kernel_rfl) (by kernel_rfl) (by kernel_rfl) (fun _ _ _ h=>h) (by kernel_rfl) hh ?_;simp only[Act.put]
  refine ba (i:=11) (oi:=_) rfl (by kernel_rfl) (by kernel_rfl) (by kernel_rfl) (fun _ _ _ h=>h) (by kernel_rfl) hh ?_;simp only[Act.put]
  refine ba (i:=12) (oi:=_) rfl (by kernel_rfl) (by kernel_rfl) (by kernel_rfl) (fun _ _ _ h=>h) (by kernel_rfl) hh ?_;simp only[Act.put]
  refine aF (i:=13) (oi:=_) (v:=?_) rfl (by kernel_rfl) (by kernel_rfl) (by kernel_rfl) (fun _ _ _ h=>h) (by kernel_rfl) ?_ hh ?_;rotate_left
  ·intro w' hSw;have s0:=hSw;go_simp;try with_reducible rfl
  simp only[Act.put]
  refine dB (i:=14) (o:=_) (by kernel_rfl) rfl (fun K hK=>?_);go_simp;go_at_call 136
  refine (bN false (HC.out.mono gM.drew)).mono ?_;rintro e wy ⟨rfl,hc,hr⟩;have hh:(fun w':World=>w'.cell? ⟨w.heap.size,7,none⟩=some (.int .i64 x.v.k)) _:=aa (ak hX6 hne hr) 7;refine hK.out _ _ hh ?_;clear hK K;try simp only[Act.put]
  refine wpAnyH_done (by kernel_rfl) ?_ _;go_wp2;go_end0
  refine⟨rfl,?_,(R5.trans (Rk.of gM.drew)).trans hr⟩;rw[aw (fun q=>by have:=(HF.out.1 q).2.2.2.2;exact HK1.out this.1)];simpa using hc
 have HK1:Hid (x.v.k=1):=hk1;rw[hk1] at x5 hX5;clear hk1;have HC:Hid (Chk a1 (some ⟨bf,of,none⟩) (some ⟨bo,oo,none⟩) ea nt c1 c2 oc ec fs.length K D wK _ w14):=hC5;have kc:=HC.out.cells;clear hC5
 go_region_with (first
  | (go_at_call 86;refine (dP 1 x.v.n x.v.s 0 _ _ _ _ fs.length _ _ hnf hsz').mono ?_;rintro e wz ⟨rfl,kd⟩)
  | (go_at_call 136;refine (bN _ (HC.out.mono ((Below.refl w14.heap.size w14).drew.trans (kd.mono nL)))).mono ?_;rintro e wy ⟨rfl,hc,hr⟩))
 all_goals
  have hC6':=hc;have R6:=(R5.trans (Rk.of ((Below.refl w14.heap.size w14).drew.trans (kd.mono nL)))).trans hr;clear HC kc x5;have hC6:Chk a1 (some ⟨bf,of,none⟩) (some ⟨bo,oo,none⟩) ea nt c1 c2 oc ec fs.length K D wK ((((( b || !pB (x.x=0)) || !pB (Reg x.d D.nums)) || !pB (x.a=0)) || !pB (x.b=0)) || !pB (x.v.k=1/\valB x.v.k x.v.n x.v.s fs.length 0=true)) wy:=by
   rw[show pB (x.v.k=1/\valB x.v.k x.v.n x.v.s fs.length 0=true)=valB 1 x.v.n x.v.s fs.length 0 by rw[HK1.out];simp[pB]]
   exact hC6'
  clear hC6';go_wp2;go_end0
  refine⟨rfl,?_,R6⟩;refine (hC6.both.both.both.both).iff ?_;rw[HF.out];exact⟨fun ⟨s0,s1,s2,s3,s4⟩=>⟨s1,s2,s3,s0,s4⟩,fun ⟨s1,s2,s3,s0,s4⟩=>⟨s0,s1,s2,s3,s4⟩⟩
end
end Go.Proofs.YtdlkbbgmjilccaaGreatDoor
