/- RV32 -/
import Derived.Test.YtbjmgmmekmfjhaaGreatDoorRV26
set_option maxHeartbeats 32000000
set_option maxRecDepth 100000
namespace Go.Proofs.YtbjmgmmekmfjhaaGreatDoor
open Go.RowKit
section
variable {fs:List Fn} {D:aR} {a1 a2 oa ea:Option Addr} {nt c1 c2 oc ec G base K:Nat} {w:World}
theorem at_sh{w:World}(h:ShAt w){o:Nat}(ho:o<30):w.cell? ⟨0,o*5,none⟩=some (.int .i64 (sh o 0:Nat))/\w.cell? ⟨0,o*5+1,none⟩=some (.int .i64 (sh o 1:Nat))/\w.cell? ⟨0,o*5+2,none⟩=some (.int .i64 (sh o 2:Nat))/\w.cell? ⟨0,o*5+3,none⟩=some (.int .i64 (sh o 3:Nat))/\w.cell? ⟨0,o*5+4,none⟩=some (.int .i64 (sh o 4:Nat)):=
 ⟨h o 0 ho (by decide),h o 1 ho (by decide),h o 2 ho (by decide),h o 3 ho (by decide),h o 4 ho (by decide)⟩
theorem opOk_any(at':Int)(x:Fo)(hs:x.v.s.size<=1048576)(h:Look fs D a1 a2 oa ea nt c1 c2 oc ec G base K w)(lim:Lim fs D) :
  Calls Tryz.prog 167 #[.pointer (some ⟨K,0,none⟩),.int .i64 at',.agg #[.int .i64 x.op,.int .i64 x.d,.int .i64 x.a,.int .i64 x.b,.int .i64 x.x,.int .i64 x.f,.int .i64 x.p,.int .i64 x.v.k,.int .i64 x.v.n,.string x.v.s]] w fun e w'=>e=.returned (.bool (pB (FopP fs D at' x)))/\Below w.heap.size w w':=by
 obtain⟨wA,hwA⟩:∃wA,wA=w.alloc (.cells #[.int .i64 x.op,.int .i64 x.d,.int .i64 x.a,.int .i64 x.b,.int .i64 x.x,.int .i64 x.f,.int .i64 x.p,.int .i64 x.v.k,.int .i64 x.v.n,.string x.v.s] 163):=⟨_,rfl⟩;have hbA:Below w.heap.size w wA:=by rw[hwA];exact b_r.alloc n_l _
 have hX:wA.heap[w.heap.size]?=some (.cells #[.int .i64 x.op,.int .i64 x.d,.int .i64 x.a,.int .i64 x.b,.int .i64 x.x,.int .i64 x.f,.int .i64 x.p,.int .i64 x.v.k,.int .i64 x.v.n,.string x.v.s] 163 (0,0)):=by rw[hwA];exact al _ _ _
 have hk:=h.mono hbA;have HL:=lim.code;have HB:Hid (Below w.heap.size w wA):=hbA;by_cases hop:Btw x.op 1 29
 case neg=>
  have hB:pB (Btw x.op 1 29)=false:=aJ hop;have HN:Hid (¬Btw x.op 1 29):=hop;clear hop;go_enter Tryz.func167,Tryz.ntmps167
  go_wp2_with (go_at_call 127;refine (bm _ _ _ _).mono ?_;rintro e w1 ⟨rfl,hw⟩;rw[hw,hB];clear hw w1)
  go_ret
  exact⟨ax (aJ (fun q=>HN.out q.1)).symm,b_r.alloc n_l _⟩
 have hB:pB (Btw x.op 1 29)=true:=aL hop;obtain⟨o,ho⟩:∃o:Nat,x.op=o:=⟨x.op.toNat,by have:=hop.1;omega⟩;have ho1:o<30:=by have:=hop.2;omega
 have ho2:(o:Int)<30:=by omega
 have HOP:Hid (Btw x.op 1 29):=hop;have HO:Hid (x.op.toNat=o):=by show _=_;omega
 have HOE:Hid (x.op=(o:Int)):=ho;clear hop ho;have HS:Hid (∀w',Below wA.heap.size wA w'->w'.cell? ⟨K,0,none⟩=some (.slice a1 nt c1)/\w'.cell? ⟨K,1,none⟩=some (.slice a2 fs.length c2)/\w'.cell? ⟨w.heap.size,5,none⟩=some (.int .i64 x.f)/\w'.cell? ⟨w.heap.size,6,none⟩=some (.int .i64 x.p)):=fun w' q=>⟨(hk.mono q).cells 0,(hk.mono q).cells 1,ae (ah hX q) 5,ae (ah hX q) 6⟩
 obtain⟨j0,j1,j2,j3⟩:=HS.out wA b_r;have q:Below wA.heap.size wA wA.drew:=b_r.drew;have HI:Hid (∀w',Below wA.heap.size wA w'->Calls Tryz.prog 221 #[.agg #[.slice a1 nt c1,.slice a2 fs.length c2],.agg #[.int .i64 x.f,.int .i64 x.p]] w' fun e w''=>e=.returned (.tuple #[.agg #[.int .i64 ((insD fs x.f x.p).getD (0,0)).1,.int .i64 ((insD fs x.f x.p).getD (0,0)).2],.bool (insD fs x.f x.p).isSome])/\Below w'.heap.size w' w''):=fun w' q=>insAt_any a1 a2 nt c1 c2 fs x.f x.p w' HL (hk.fns.mono q)
 have HK:Hid (Look fs D a1 a2 oa ea nt c1 c2 oc ec G base K wA):=hk;have HX:Hid (wA.heap[w.heap.size]?=some (.cells #[.int .i64 x.op,.int .i64 x.d,.int .i64 x.a,.int .i64 x.b,.int .i64 x.x,.int .i64 x.f,.int .i64 x.p,.int .i64 x.v.k,.int .i64 x.v.n,.string x.v.s] 163 (0,0))):=hX;clear hk hX hbA h HL;obtain⟨u1,hu1⟩:∃u1,u1=((insD fs x.f x.p).getD (0,0)).1:=⟨_,rfl⟩;obtain⟨u2,hu2⟩:∃u2,u2=((insD fs x.f x.p).getD (0,0)).2:=⟨_,rfl⟩;obtain⟨ib,hib⟩:∃ib,ib=(insD fs x.f x.p).isSome:=⟨_,rfl⟩;rw[<-hu1,<-hu2,<-hib] at HI;have HIB:Hid (ib=(insD fs x.f x.p).isSome):=hib;clear hu1 hu2 hib;go_enter Tryz.func167,Tryz.ntmps167
 go_upto_region 3 with (go_at_call 127;refine (bm _ _ _ _).mono ?_;rintro e w1 ⟨rfl,hw⟩;rw[hw,hB];clear hw w1)
 rw[<-hwA];clear hwA hB;go_cut [8] from 14 to 26 (fun s8 wx=>s8=.bool ib/\Below wA.heap.size wA wx)
 case first=>
  go_region_held3 (fun w'=>w'.cell? ⟨K,0,none⟩=some (.slice a1 nt c1)/\w'.cell? ⟨K,1,none⟩=some (.slice a2 fs.length c2)/\w'.cell? ⟨w.heap.size,5,none⟩=some (.int .i64 x.f)/\w'.cell? ⟨w.heap.size,6,none⟩=some (.int .i64 x.p))
   (first
    | exact⟨j0,j1,j2,j3⟩
    | exact HS.out _ q
    | exact HS.out _ (q.alloc q.size _)
    | exact HS.out _ ((q.setCell hg _).setCell hg _)
    | exact HS.out _ (((q.alloc q.size _).setCell q.size _).setCell q.size _))
   (first
    | (go_at_call 221;refine (HI.out _ (by first | exact q | exact q.alloc q.size _)).mono ?_;rintro e wb ⟨rfl,kd⟩;(first | (have hk:=ah hk kd;have hc:=ae hk;have hf:=aq hk) | (have hk:=ah (b6 _ _ _) kd;have hg:=Nat.le_refl wA.heap.size;have hc:=ae hk;have hf:=aq hk) | (have hk:=ah (al _ _ _) kd;have hg:=q.size;have hc:=ae hk;have hf:=aq hk) | skip);(first | (have q:=q.trans (kd.mono q.size)) | (have q:=(q.alloc q.size _).trans (kd.mono (by have:=q.size;simp<;>omega))))))
  all_goals
   go_wp2_with fail
   go_meet
   case rel=>
    first
     | exact⟨rfl,(q.setCell hg _).setCell hg _⟩
     | exact⟨rfl,q.alloc q.size _⟩
 case rest=>
  obtain⟨rfl,hq⟩:=hcut;have HB2:Hid (Below w.heap.size w wc):=HB.out.trans (hq.mono HB.out.size);have HK2:Hid (Look fs D a1 a2 oa ea nt c1 c2 oc ec G base K wc):=HK.out.mono hq;have hX2:=ah HX.out hq;clear HS HI HK HX j0 j1 j2 j3 q hq HB
  cases ib
  ·go_wp2;go_ret
   exact⟨ax (aJ (fun q=>by have:=HIB.out;rw[q.2.1] at this;cases this)).symm,HB2.out⟩
  obtain⟨s0,s1,s2,s3,s4⟩:=at_sh HK2.out.shp ho1;have l0:=sh_le o ho1 0 (by decide);have l1:=sh_le o ho1 1 (by decide);have l2:=sh_le o ho1 2 (by decide);have l3:=sh_le o ho1 3 (by decide);have HP:Hid (FopP fs D at' x↔aD fs.length D at' (sh o 0) x.d/\aD fs.length D at' (sh o 1) x.a/\aD fs.length D at' (sh o 2) x.b/\aD fs.length D at' (sh o 3) x.x/\bi fs.length (sh o 4) x.v):=by
   show _↔_
   unfold FopP;rw[HO.out];exact⟨fun q=>q.2.2,fun q=>⟨HOP.out,HIB.out.symm,q⟩⟩
  obtain⟨wS,hwS⟩:∃wS,wS=wc.alloc (.cells #[.int .i64 (sh o 0:Nat),.int .i64 (sh o 1:Nat),.int .i64 (sh o 2:Nat),.int .i64 (sh o 3:Nat),.int .i64 (sh o 4:Nat)] 313):=⟨_,rfl⟩;have hS1:wS.heap[wc.heap.size]?=some (.cells #[.int .i64 (sh o 0:Nat),.int .i64 (sh o 1:Nat),.int .i64 (sh o 2:Nat),.int .i64 (sh o 3:Nat),.int .i64 (sh o 4:Nat)] 313 (0,0)):=by rw[hwS];exact al _ _ _
  have hbS:Below wc.heap.size wc wS:=by rw[hwS];exact b_r.alloc n_l _
  have hX3:=ah hX2 hbS;have HK3:Hid (Look fs D a1 a2 oa ea nt c1 c2 oc ec G base K wS):=HK2.out.mono hbS;have HB3:Hid (Below w.heap.size w wS):=HB2.out.trans (hbS.mono HB2.out.size);have x2:=ae hX2;rw[HOE.out] at x2;have x3:=ae (au hX2 (.cells #[.int .i64 (sh o 0:Nat),.int .i64 (sh o 1:Nat),.int .i64 (sh o 2:Nat),.int .i64 (sh o 3:Nat),.int .i64 (sh o 4:Nat)] 313));clear HIB HOP HO;go_wp2_with fail
  rw[<-hwS];clear hwS s0 s1 s2 s3 s4 x2 x3 hX2 HK2 hbS HB2;refine (dK at' x.d (sh o 0) l0 HK3.out).mono ?_;rintro e w0 ⟨rfl,hb⟩;have HK4:Hid (Look fs D a1 a2 oa ea nt c1 c2 oc ec G base K w0):=HK3.out.mono hb;have HB4:Hid (Below w.heap.size w w0):=HB3.out.trans (hb.mono HB3.out.size);have hX4:=ah hX3 hb;have hS2:=ah hS1 hb;clear HK3 HB3 hX3 hS1 hb;by_cases hp0:aD fs.length D at' (sh o 0) x.d
  case neg=>
   rw[aJ hp0];have HN:Hid (¬aD fs.length D at' (sh o 0) x.d):=hp0;clear hp0;go_wp2;go_ret
   exact⟨ax (aJ (fun q=>HN.out (HP.out.1 q).1)).symm,HB4.out⟩
  rw[aL hp0];have HP0:Hid (aD fs.length D at' (sh o 0) x.d):=hp0;clear hp0;have y4:=ae hX4;have z4:=ae hS2;go_wp2_with fail
  clear y4 z4;refine (dK at' x.a (sh o 1) l1 HK4.out).mono ?_;rintro e w1 ⟨rfl,hb⟩;have HK5:Hid (Look fs D a1 a2 oa ea nt c1 c2 oc ec G base K w1):=HK4.out.mono hb;have HB5:Hid (Below w.heap.size w w1):=HB4.out.trans (hb.mono HB4.out.size);have hX5:=ah hX4 hb;have hS3:=ah hS2 hb;clear HK4 HB4 hX4 hS2 hb;by_cases hp1:aD fs.length D at' (sh o 1) x.a
  case neg=>
   rw[aJ hp1];have HN:Hid (¬aD fs.length D at' (sh o 1) x.a):=hp1;clear hp1;go_wp2;go_ret
   exact⟨ax (aJ (fun q=>HN.out (HP.out.1 q).2.1)).symm,HB5.out⟩
  rw[aL hp1];have HP1:Hid (aD fs.length D at' (sh o 1) x.a):=hp1;clear hp1;have y5:=ae hX5;have z5:=ae hS3;go_wp2_with fail
  clear y5 z5;refine (dK at' x.b (sh o 2) l2 HK5.out).mono ?_;rintro e w2 ⟨rfl,hb⟩;have HK6:Hid (Look fs D a1 a2 oa ea nt c1 c2 oc ec G base K w2):=HK5.out.mono hb;have HB6:Hid (Below w.heap.size w w2):=HB5.out.trans (hb.mono HB5.out.size);have hX6:=ah hX5 hb;have hS4:=ah hS3 hb;clear HK5 HB5 hX5 hS3 hb;by_cases hp2:aD fs.length D at' (sh o 2) x.b
  case neg=>
   rw[aJ hp2];have HN:Hid (¬aD fs.length D at' (sh o 2) x.b):=hp2;clear hp2;go_wp2;go_ret
   exact⟨ax (aJ (fun q=>HN.out (HP.out.1 q).2.2.1)).symm,HB6.out⟩
  rw[aL hp2];have HP2:Hid (aD fs.length D at' (sh o 2) x.b):=hp2;clear hp2;have y6:=ae hX6;have z6:=ae hS4;go_wp2_with fail
  clear y6 z6;refine (dK at' x.x (sh o 3) l3 HK6.out).mono ?_;rintro e w3 ⟨rfl,hb⟩;have HK7:Hid (Look fs D a1 a2 oa ea nt c1 c2 oc ec G base K w3):=HK6.out.mono hb;have HB7:Hid (Below w.heap.size w w3):=HB6.out.trans (hb.mono HB6.out.size);have hX7:=ah hX6 hb;have hS5:=ah hS4 hb;clear HK6 HB6 hX6 hS4 hb;by_cases hp3:aD fs.length D at' (sh o 3) x.x
  case neg=>
   rw[aJ hp3];have HN:Hid (¬aD fs.length D at' (sh o 3) x.x):=hp3;clear hp3;go_wp2;go_ret
   exact⟨ax (aJ (fun q=>HN.out (HP.out.1 q).2.2.2.1)).symm,HB7.out⟩
  rw[aL hp3];have HP3:Hid (aD fs.length D at' (sh o 3) x.x):=hp3;clear hp3;have y7:=ae hX7;have z7:=ae hS5;go_wp2_with fail
  clear y7 z7;refine (constantOk_any x.v (sh o 4) hs HK7.out).mono ?_;rintro e w5 ⟨rfl,hb⟩;have HB9:Hid (Below w.heap.size w w5):=HB7.out.trans (hb.mono HB7.out.size);go_wp2;go_ret
  refine⟨bP ?_,HB9.out⟩;rw[HP.out];constructor
  ·intro q;exact⟨HP0.out,HP1.out,HP2.out,HP3.out,Classical.byContradiction (fun q'=>by rw[aJ q'] at q;cases q)⟩
  ·intro q;exact aL q.2.2.2.2
end
section
variable {fs:List Fn} {a1 a2 oa ea:Option Addr} {nt c1 c2 oc ec K:Nat} {D:aR} {wK w:World} {b:Bool}
theorem sOp1_any(i:Nat)(hi:i<D.ops.length)(hop:D.ops[i].op=1)(his:(insD fs D.ops[i].f D.ops[i].p).isSome=true)(l:SLim fs D K wK a2 oa ea)(h:Chk a1 a2 oa ea nt c1 c2 oc ec fs.length K D wK b w) :
  Calls Tryz.prog 151 #[.pointer (some ⟨K,0,none⟩),.int .i64 (i:Nat)] w fun e w'=>e=.returned (.tuple #[])/\Chk a1 a2 oa ea nt c1 c2 oc ec fs.length K D wK (b || !pB (FopP fs D i D.ops[i])) w'/\Rk K w w':=by
 obtain⟨hmf,hmo,-⟩:=l.at h;obtain⟨fi,pi,hfi,hfe,hpe,hpi⟩:=bE his;obtain⟨bf,of,ca,cc,rfl,-,-,-,f3,-⟩:=hmf fi hfi;obtain⟨bo,oo,rfl,-,d0,d1,d2,d3,d4,d5,d6,d7,d8,d9⟩:=hmo i hi;have hsz:=l.fast.1.2 _ (g_m hi);obtain⟨x,hx⟩:∃x,x=D.ops[i]:=⟨_,rfl⟩;have HF:Hid (FopP fs D i D.ops[i]↔aD fs.length D i (sh 1 0) x.d/\aD fs.length D i (sh 1 1) x.a/\aD fs.length D i (sh 1 2) x.b/\aD fs.length D i (sh 1 3) x.x/\bi fs.length (sh 1 4) x.v):=by rw[hx];exact bH 1 hop (by decide) (by decide) his
 rw[hop] at d0;rw[<-hx] at d1 d2 d3 d4 d5 d6 d7 d8 d9 hfe hpe hsz;have HX:Hid (x=D.ops[i]):=hx;have hsz':x.v.s.size<=1048576:=hsz;have z1:(i:Int)<(D.ops.length:Int):=by omega
 have k1:=h.cells;have hwk:K<w.heap.size:=ay h.blk;obtain⟨wA,hwA⟩:∃wA,wA=w.alloc (.cells #[.int .i64 1,.int .i64 x.d,.int .i64 x.a,.int .i64 x.b,.int .i64 x.x,.int .i64 x.f,.int .i64 x.p,.int .i64 x.v.k,.int .i64 x.v.n,.string x.v.s] 163):=⟨_,rfl⟩;have hbA:Below w.heap.size w wA:=by rw[hwA];exact b_r.alloc n_l _
 have hX0:wA.heap[w.heap.size]?=some (.cells #[.int .i64 1,.int .i64 x.d,.int .i64 x.a,.int .i64 x.b,.int .i64 x.x,.int .i64 x.f,.int .i64 x.p,.int .i64 x.v.k,.int .i64 x.v.n,.string x.v.s] 163 (0,0)):=by rw[hwA];exact al _ _ _
 have hC0:=h.mono hbA;have hne:w.heap.size≠K:=by omega
 have HFE:Hid (x.f=(fi:Int)):=hfe;have HPE:Hid (x.p=(pi:Int)):=hpe;have f3A:=cell_later hbA f3;have HS:Hid (∀w',Below wA.heap.size wA w'->w'.cell? ⟨K,1,none⟩=some (.slice (some ⟨bf,of,none⟩) fs.length c2)/\w'.cell? ⟨w.heap.size,5,none⟩=some (.int .i64 (fi:Int))/\w'.cell? ⟨w.heap.size,6,none⟩=some (.int .i64 (pi:Int))/\w'.cell? ⟨bf,of+fi*3+2,none⟩=some (.slice ca fs[fi].code.length cc)):=fun w' q=>by
  have t5:=ae (ah hX0 q) 5;have t6:=ae (ah hX0 q) 6;rw[HFE.out] at t5;rw[HPE.out] at t6;exact⟨(hC0.mono q).cells 1,t5,t6,cell_later q f3A⟩
 have hcl:=l.code _ (g_m hfi);have hnf:=l.nf;have hw1:IntKind.i64.wrap ((fs.length:Int)-1)=(fs.length:Int)-1:=by rw[IntKind.wrap_i64];omega
 have hw2:IntKind.i64.wrap ((fs[fi].code.length:Int)-1)=(fs[fi].code.length:Int)-1:=by rw[IntKind.wrap_i64];omega
 have y0:(0:Int)<=(fi:Int):=by omega
 have y1:(fi:Int)<(fs.length:Int):=by omega
 have HC0:=bd wA (fi:Int) 0 ((fs.length:Int)-1) ⟨by omega,by omega⟩;have HC1:=bd wA (pi:Int) 0 ((fs[fi].code.length:Int)-1) ⟨by omega,by omega⟩;have HL:Hid (SLim fs D K wK (some ⟨bf,of,none⟩) (some ⟨bo,oo,none⟩) ea):=l;clear hfe hpe hx f3 f3A hop his hmf hmo hsz h;go_enter Tryz.func151,Tryz.ntmps151
 go_upto_region 1 with fail
 rw[<-hwA];clear hwA d0 d1 d2 d3 d4 d5 d6 d7 d8 d9 k1;refine aB (by kernel_rfl) (by kernel_rfl) ?_
 iterate 9
  refine am (v:=?_) (by kernel_rfl) ?_ ?_;rotate_left
  ·intro w' hC;obtain⟨j0,j1,j2,j3⟩:=HS.out w' hC;go_simp;try with_reducible rfl
  try simp only[Act.put,sAr,sZe,sSu]
 refine am (v:=.bool true) (by kernel_rfl) ?_ ?_
 ·intro w' hC;go_simp;refine (HC0.out _ hC).mono ?_;rintro e w'' ⟨rfl,hb2⟩;exact⟨rfl,hC.trans (hb2.mono hC.size)⟩
 try simp only[Act.put,sAr,sZe,sSu]
 iterate 16
  refine am (v:=?_) (by kernel_rfl) ?_ ?_;rotate_left
  ·intro w' hC;obtain⟨j0,j1,j2,j3⟩:=HS.out w' hC;go_simp;try with_reducible rfl
  try simp only[Act.put,sAr,sZe,sSu]
 refine am (v:=.bool true) (by kernel_rfl) ?_ ?_
 ·intro w' hC;go_simp;refine (HC1.out _ hC).mono ?_;rintro e w'' ⟨rfl,hb2⟩;exact⟨rfl,hC.trans (hb2.mono hC.size)⟩
 try simp only[Act.put,sAr,sZe,sSu]
 iterate 2
  refine am (v:=?_) (by kernel_rfl) ?_ ?_;rotate_left
  ·intro w' hC;obtain⟨j0,j1,j2,j3⟩:=HS.out w' hC;go_simp;try with_reducible rfl
  try simp only[Act.put,sAr,sZe,sSu]
 refine wpQuiet_nil ?_;intro w2 q2;have hC1:=hC0.mono q2;have hX1:=ah hX0 q2;have R1:Rk K w w2:=(Rk.of hbA).trans (Rk.of q2);clear HS HC0 HC1 hC0 hX0 hbA q2 hw2 y0 y1;have x1:=ae hX1;go_wp2_with fail
 refine (exits1_any _).mono ?_;rintro e w3 ⟨rfl,hw⟩;rw[hw];clear hw w3;go_wp2_with fail
 refine (aI x.x hC1).mono ?_;rintro e w11 ⟨rfl,hC2,hr⟩;have hX2:=ao hX1 hne hr;have R2:=R1.trans hr;clear x1 hX1 R1 hC1 hr;have x2:=ae hX2;go_wp2_with fail
 refine (aV x.d HL.out.vals hC2).mono ?_;rintro e w12 ⟨rfl,hC3,hr⟩;have hX3:=ao hX2 hne hr;have R3:=R2.trans hr;clear x2 hX2 R2 hC2 hr;have x3:=ae hX3;go_wp2_with fail
 refine (aI x.a hC3).mono ?_;rintro e w13 ⟨rfl,hC4,hr⟩;have hX4:=ao hX3 hne hr;have R4:=R3.trans hr;clear x3 hX3 R3 hC3 hr;have x4:=ae hX4;go_wp2_with fail
 refine (aI x.b hC4).mono ?_;rintro e w14 ⟨rfl,hC5,hr⟩;have hX5:=ao hX4 hne hr;have R5:=R4.trans hr;clear x4 hX4 R4 hC4 hr;have x5:=ae hX5;go_wp2_with fail
 have HC:Hid (Chk a1 (some ⟨bf,of,none⟩) (some ⟨bo,oo,none⟩) ea nt c1 c2 oc ec fs.length K D wK _ w14):=hC5;have HXX:=hX5;have HS:Hid (∀w',Below w14.heap.size w14 w'->w'.cell? ⟨K,0,none⟩=some (.slice a1 nt c1)/\w'.cell? ⟨K,1,none⟩=some (.slice (some ⟨bf,of,none⟩) fs.length c2)/\w'.cell? ⟨w.heap.size,7,none⟩=some (.int .i64 x.v.k)/\w'.cell? ⟨w.heap.size,8,none⟩=some (.int .i64 x.v.n)/\w'.cell? ⟨w.heap.size,9,none⟩=some (.string x.v.s)):=fun w' q=>⟨(HC.out.mono q).cells 0,(HC.out.mono q).cells 1,ae (ah HXX q) 7,ae (ah HXX q) 8,ae (ah HXX q) 9⟩
 obtain⟨j0,j1,j2,j3,j4⟩:=HS.out _ b_r;have q:Below w14.heap.size w14 w14.drew:=b_r.drew;clear x5 hC5
 go_region_held3 (fun w'=>w'.cell? ⟨K,0,none⟩=some (.slice a1 nt c1)/\w'.cell? ⟨K,1,none⟩=some (.slice (some ⟨bf,of,none⟩) fs.length c2)/\w'.cell? ⟨w.heap.size,7,none⟩=some (.int .i64 x.v.k)/\w'.cell? ⟨w.heap.size,8,none⟩=some (.int .i64 x.v.n)/\w'.cell? ⟨w.heap.size,9,none⟩=some (.string x.v.s))
  (first | exact⟨j0,j1,j2,j3,j4⟩ | exact HS.out _ q | exact⟨hc.cells 0,hc.cells 1,ae (ao (ah HXX q) hne hr) 7,ae (ao (ah HXX q) hne hr) 8,ae (ao (ah HXX q) hne hr) 9⟩)
  (first
   | (go_at_call 120;refine (fj x.v.k x.v.n x.v.s 0 _ _ _ _ fs.length _ _ hnf hsz').mono ?_;rintro e wz ⟨rfl,kd⟩;have q:=q.trans (kd.mono q.size))
   | (go_at_call 205;refine (ci _ (HC.out.mono q)).mono ?_;rintro e wy ⟨rfl,hc,hr⟩))
 have hC6':=hc;have R6:=(R5.trans (Rk.of q)).trans hr;clear HS HC j0 j1 j2 j3 j4;have hC6:Chk a1 (some ⟨bf,of,none⟩) (some ⟨bo,oo,none⟩) ea nt c1 c2 oc ec fs.length K D wK ((((( b || !pB (x.x=0)) || !pB (Reg x.d D.vals)) || !pB (x.a=0)) || !pB (x.b=0)) || !pB (valB x.v.k x.v.n x.v.s fs.length 0=true)) wy:=by
  rw[show pB (valB x.v.k x.v.n x.v.s fs.length 0=true)=valB x.v.k x.v.n x.v.s fs.length 0 by simp[pB]]
  exact hC6'
 clear hC6';go_wp2;go_end0
 refine⟨rfl,?_,R6⟩;refine (hC6.both.both.both.both).iff ?_;rw[HF.out];exact⟨fun ⟨s0,s1,s2,s3,s4⟩=>⟨s1,s2,s3,s0,s4⟩,fun ⟨s1,s2,s3,s0,s4⟩=>⟨s0,s1,s2,s3,s4⟩⟩
end
section
variable {fs:List Fn} {a1 a2 oa ea:Option Addr} {nt c1 c2 oc ec K:Nat} {D:aR} {wK w:World} {b:Bool}
theorem sOpNo_any(i:Nat)(hi:i<D.ops.length)(hop:D.ops[i].op<1\/29<D.ops[i].op)(his:(insD fs D.ops[i].f D.ops[i].p).isSome=true)(l:SLim fs D K wK a2 oa ea)(h:Chk a1 a2 oa ea nt c1 c2 oc ec fs.length K D wK b w) :
  Calls Tryz.prog 151 #[.pointer (some ⟨K,0,none⟩),.int .i64 (i:Nat)] w fun e w'=>e=.returned (.tuple #[])/\Chk a1 a2 oa ea nt c1 c2 oc ec fs.length K D wK (b || !pB (FopP fs D i D.ops[i])) w'/\Rk K w w':=by
 obtain⟨hmf,hmo,-⟩:=l.at h;obtain⟨fi,pi,hfi,hfe,hpe,hpi⟩:=bE his;obtain⟨bf,of,ca,cc,rfl,-,-,-,f3,-⟩:=hmf fi hfi;obtain⟨bo,oo,rfl,-,d0,d1,d2,d3,d4,d5,d6,d7,d8,d9⟩:=hmo i hi;have hsz:=l.fast.1.2 _ (g_m hi);obtain⟨x,hx⟩:∃x,x=D.ops[i]:=⟨_,rfl⟩;have HF:Hid (¬FopP fs D i D.ops[i]):=fun q=>by have:=q.1;omega
 rw[<-hx] at d0 hop;rw[<-hx] at d1 d2 d3 d4 d5 d6 d7 d8 d9 hfe hpe hsz;have HX:Hid (x=D.ops[i]):=hx;have hsz':x.v.s.size<=1048576:=hsz;have z1:(i:Int)<(D.ops.length:Int):=by omega
 have k1:=h.cells;have hwk:K<w.heap.size:=ay h.blk;obtain⟨wA,hwA⟩:∃wA,wA=w.alloc (.cells #[.int .i64 x.op,.int .i64 x.d,.int .i64 x.a,.int .i64 x.b,.int .i64 x.x,.int .i64 x.f,.int .i64 x.p,.int .i64 x.v.k,.int .i64 x.v.n,.string x.v.s] 163):=⟨_,rfl⟩;have hbA:Below w.heap.size w wA:=by rw[hwA];exact b_r.alloc n_l _
 have hX0:wA.heap[w.heap.size]?=some (.cells #[.int .i64 x.op,.int .i64 x.d,.int .i64 x.a,.int .i64 x.b,.int .i64 x.x,.int .i64 x.f,.int .i64 x.p,.int .i64 x.v.k,.int .i64 x.v.n,.string x.v.s] 163 (0,0)):=by rw[hwA];exact al _ _ _
 have hC0:=h.mono hbA;have hne:w.heap.size≠K:=by omega
 have HFE:Hid (x.f=(fi:Int)):=hfe;have HPE:Hid (x.p=(pi:Int)):=hpe;have f3A:=cell_later hbA f3;have HS:Hid (∀w',Below wA.heap.size wA w'->w'.cell? ⟨K,1,none⟩=some (.slice (some ⟨bf,of,none⟩) fs.length c2)/\w'.cell? ⟨w.heap.size,5,none⟩=some (.int .i64 (fi:Int))/\w'.cell? ⟨w.heap.size,6,none⟩=some (.int .i64 (pi:Int))/\w'.cell? ⟨bf,of+fi*3+2,none⟩=some (.slice ca fs[fi].code.length cc)):=fun w' q=>by
  have t5:=ae (ah hX0 q) 5;have t6:=ae (ah hX0 q) 6;rw[HFE.out] at t5;rw[HPE.out] at t6;exact⟨(hC0.mono q).cells 1,t5,t6,cell_later q f3A⟩
 have hcl:=l.code _ (g_m hfi);have hnf:=l.nf;have hw1:IntKind.i64.wrap ((fs.length:Int)-1)=(fs.length:Int)-1:=by rw[IntKind.wrap_i64];omega
 have hw2:IntKind.i64.wrap ((fs[fi].code.length:Int)-1)=(fs[fi].code.length:Int)-1:=by rw[IntKind.wrap_i64];omega
 have y0:(0:Int)<=(fi:Int):=by omega
 have y1:(fi:Int)<(fs.length:Int):=by omega
 have HC0:=bd wA (fi:Int) 0 ((fs.length:Int)-1) ⟨by omega,by omega⟩;have HC1:=bd wA (pi:Int) 0 ((fs[fi].code.length:Int)-1) ⟨by omega,by omega⟩;have HL:Hid (SLim fs D K wK (some ⟨bf,of,none⟩) (some ⟨bo,oo,none⟩) ea):=l;have HOP:Hid (x.op<1\/29<x.op):=hop;clear hfe hpe hx f3 f3A hop his hmf hmo hsz h;go_enter Tryz.func151,Tryz.ntmps151
 go_upto_region 1 with fail
 rw[<-hwA];clear hwA d0 d1 d2 d3 d4 d5 d6 d7 d8 d9 k1;refine aB (by kernel_rfl) (by kernel_rfl) ?_
 iterate 9
  refine am (v:=?_) (by kernel_rfl) ?_ ?_;rotate_left
  ·intro w' hC;obtain⟨j0,j1,j2,j3⟩:=HS.out w' hC;go_simp;try with_reducible rfl
  try simp only[Act.put,sAr,sZe,sSu]
 refine am (v:=.bool true) (by kernel_rfl) ?_ ?_
 ·intro w' hC;go_simp;refine (HC0.out _ hC).mono ?_;rintro e w'' ⟨rfl,hb2⟩;exact⟨rfl,hC.trans (hb2.mono hC.size)⟩
 try simp only[Act.put,sAr,sZe,sSu]
 iterate 16
  refine am (v:=?_) (by kernel_rfl) ?_ ?_;rotate_left
  ·intro w' hC;obtain⟨j0,j1,j2,j3⟩:=HS.out w' hC;go_simp;try with_reducible rfl
  try simp only[Act.put,sAr,sZe,sSu]
 refine am (v:=.bool true) (by kernel_rfl) ?_ ?_
 ·intro w' hC;go_simp;refine (HC1.out _ hC).mono ?_;rintro e w'' ⟨rfl,hb2⟩;exact⟨rfl,hC.trans (hb2.mono hC.size)⟩
 try simp only[Act.put,sAr,sZe,sSu]
 iterate 2
  refine am (v:=?_) (by kernel_rfl) ?_ ?_;rotate_left
  ·intro w' hC;obtain⟨j0,j1,j2,j3⟩:=HS.out w' hC;go_simp;try with_reducible rfl
  try simp only[Act.put,sAr,sZe,sSu]
 refine wpQuiet_nil ?_;intro w2 q2;have hC1:=hC0.mono q2;have hX1:=ah hX0 q2;have R1:Rk K w w2:=(Rk.of hbA).trans (Rk.of q2);clear HS HC0 HC1 hC0 hX0 hbA q2 hw2 y0 y1;have x1:=ae hX1;go_wp2_with fail
 refine (exitsNo_any _ _ HOP.out).mono ?_;rintro e w3 ⟨rfl,hw⟩;rw[hw];clear hw w3;go_wp2_with fail
 refine (aI x.x hC1).mono ?_;rintro e w11 ⟨rfl,hC2,hr⟩;have hX2:=ao hX1 hne hr;have R2:=R1.trans hr;clear x1 hX1 R1 hC1 hr;have x2:=ae hX2;have hop:=HOP.out;have n1:(x.op != 1)=true:=by simp;omega
 have n3:(x.op != 3)=true:=by simp;omega
 clear hop;go_wp2_with fail
 refine (aP x.v hC2).mono ?_;rintro e w12 ⟨rfl,hC3,hr⟩;have hX3:=ao hX2 hne hr;have R3:=R2.trans hr;clear x2 hX2 R2 hC2 hr n1 n3;have x3:=ae hX3;have k3:=hC3.cells;have k4:=hC3.free;have hop:=HOP.out;have g1:(x.op == 1)=false:=by simp;omega
 have g2:(x.op == 2)=false:=by simp;omega
 have g3:(x.op == 3)=false:=by simp;omega
 have g4:(x.op == 4)=false:=by simp;omega
 have g5:(x.op == 5)=false:=by simp;omega
 have g6:(x.op == 6)=false:=by simp;omega
 have g7:(x.op == 7)=false:=by simp;omega
 have g8:(x.op == 8)=false:=by simp;omega
 have g9:(x.op == 9)=false:=by simp;omega
 have g10:(x.op == 10)=false:=by simp;omega
 have g11:(x.op == 11)=false:=by simp;omega
 have g12:(x.op == 12)=false:=by simp;omega
 have g13:(x.op == 13)=false:=by simp;omega
 have g14:(x.op == 14)=false:=by simp;omega
 have g15:(x.op == 15)=false:=by simp;omega
 have g16:(x.op == 16)=false:=by simp;omega
 have g17:(x.op == 17)=false:=by simp;omega
 have g18:(x.op == 18)=false:=by simp;omega
 have g19:(x.op == 19)=false:=by simp;omega
 have g20:(x.op == 20)=false:=by simp;omega
 have g21:(x.op == 21)=false:=by simp;omega
 have g22:(x.op == 22)=false:=by simp;omega
 have g23:(x.op == 23)=false:=by simp;omega
 have g24:(x.op == 24)=false:=by simp;omega
 have g25:(x.op == 25)=false:=by simp;omega
 have g26:(x.op == 26)=false:=by simp;omega
 have g27:(x.op == 27)=false:=by simp;omega
 have g28:(x.op == 28)=false:=by simp;omega
 have g29:(x.op == 29)=false:=by simp;omega
 clear hop;go_wp2;go_end0
 exact⟨rfl,(hC3.set true).no HF.out,R3.set _⟩
theorem sOpBad_any(i:Nat)(hi:i<D.ops.length)(his:¬(insD fs D.ops[i].f D.ops[i].p).isSome=true)(l:SLim fs D K wK a2 oa ea)(h:Chk a1 a2 oa ea nt c1 c2 oc ec fs.length K D wK b w) :
  Calls Tryz.prog 151 #[.pointer (some ⟨K,0,none⟩),.int .i64 (i:Nat)] w fun e w'=>e=.returned (.tuple #[])/\Chk a1 a2 oa ea nt c1 c2 oc ec fs.length K D wK (b || !pB (FopP fs D i D.ops[i])) w'/\Rk K w w':=by
 obtain⟨hmf,hmo,-⟩:=l.at h;obtain⟨bo,oo,rfl,-,d0,d1,d2,d3,d4,d5,d6,d7,d8,d9⟩:=hmo i hi;have HF:Hid (¬FopP fs D i D.ops[i]):=fun q=>his q.2.1
 obtain⟨x,hx⟩:∃x,x=D.ops[i]:=⟨_,rfl⟩;rw[<-hx] at d0 d1 d2 d3 d4 d5 d6 d7 d8 d9 his;have HX:Hid (x=D.ops[i]):=hx;have z1:(i:Int)<(D.ops.length:Int):=by omega
 have k1:=h.cells;obtain⟨wA,hwA⟩:∃wA,wA=w.alloc (.cells #[.int .i64 x.op,.int .i64 x.d,.int .i64 x.a,.int .i64 x.b,.int .i64 x.x,.int .i64 x.f,.int .i64 x.p,.int .i64 x.v.k,.int .i64 x.v.n,.string x.v.s] 163):=⟨_,rfl⟩;have hbA:Below w.heap.size w wA:=by rw[hwA];exact b_r.alloc n_l _
 have hX0:wA.heap[w.heap.size]?=some (.cells #[.int .i64 x.op,.int .i64 x.d,.int .i64 x.a,.int .i64 x.b,.int .i64 x.x,.int .i64 x.f,.int .i64 x.p,.int .i64 x.v.k,.int .i64 x.v.n,.string x.v.s] 163 (0,0)):=by rw[hwA];exact al _ _ _
 have hC0:=h.mono hbA;have hnf:=l.nf;have hw1:IntKind.i64.wrap ((fs.length:Int)-1)=(fs.length:Int)-1:=by rw[IntKind.wrap_i64];omega
 by_cases hf:Reg x.f fs.length
 case neg=>
  have HS:Hid (∀w',Below wA.heap.size wA w'->w'.cell? ⟨K,1,none⟩=some (.slice a2 fs.length c2)/\w'.cell? ⟨w.heap.size,5,none⟩=some (.int .i64 x.f)):=fun w' q=>⟨(hC0.mono q).cells 1,ae (ah hX0 q) 5⟩
  have HC0:Hid (∀w',Below wA.heap.size wA w'->Calls Tryz.prog 72 #[.int .i64 x.f,.int .i64 0,.int .i64 ((fs.length:Int)-1)] w' fun e w''=>e=.returned (.bool false)/\Below w'.heap.size w' w''):=fun w' _=>(bg _ _ _ _).mono fun _ _ q=>⟨by rw[q.1,dS,aJ hf],by rw[q.2];exact Below.refl _ _⟩
  clear hx hmf hmo h his hf;go_enter Tryz.func151,Tryz.ntmps151
  go_upto_region 1 with fail
  rw[<-hwA];clear hwA d0 d1 d2 d3 d4 d5 d6 d7 d8 d9 k1;refine aB (by kernel_rfl) (by kernel_rfl) ?_
  iterate 9
   refine am (v:=?_) (by kernel_rfl) ?_ ?_;rotate_left
   ·intro w' hC;obtain⟨j0,j1⟩:=HS.out w' hC;go_simp;try with_reducible rfl
   try simp only[Act.put,sAr,sZe,sSu]
  refine am (v:=.bool false) (by kernel_rfl) ?_ ?_
  ·intro w' hC;go_simp;refine (HC0.out _ hC).mono ?_;rintro e w'' ⟨rfl,hb2⟩;exact⟨rfl,hC.trans (hb2.mono hC.size)⟩
  try simp only[Act.put,sAr,sZe,sSu]
  iterate 2
   refine am (v:=?_) (by kernel_rfl) ?_ ?_;rotate_left
   ·intro w' hC;obtain⟨j0,j1⟩:=HS.out w' hC;go_simp;try with_reducible rfl
   try simp only[Act.put,sAr,sZe,sSu]
  iterate 16 go_big_quiet_skip
  refine am (v:=?_) (by kernel_rfl) ?_ ?_;rotate_left
  ·intro w' hC;obtain⟨j0,j1⟩:=HS.out w' hC;go_simp;try with_reducible rfl
  try simp only[Act.put,sAr,sZe,sSu]
  refine wpQuiet_nil ?_;intro w2 q2;have hC1:=hC0.mono q2;have k3:=hC1.cells;have k4:=hC1.free;go_wp2
  (try simp only[Exit.inBlock,Exit.then])
  refine bodyPost_ret (results_none rfl _ _ _) rfl ?_;exact⟨rfl,(hC1.set true).no HF.out,((Rk.of hbA).trans (Rk.of q2)).set _⟩
 obtain⟨fi,hfe⟩:∃fi:Nat,x.f=fi:=⟨x.f.toNat,by have:=hf.1;omega⟩;have hfi:fi<fs.length:=by have:=hf.2;omega
 obtain⟨bf,of,ca,cc,rfl,-,-,-,f3,-⟩:=hmf fi hfi;have hpn:¬Reg x.p fs[fi].code.length:=fun q=>by
  obtain⟨pj,hpj⟩:∃pj:Nat,x.p=pj:=⟨x.p.toNat,by have:=q.1;omega⟩;have hj:pj<fs[fi].code.length:=by have:=q.2;omega
  rw[hfe,hpj,fP hfi hj] at his;exact his rfl
 have HFE:Hid (x.f=(fi:Int)):=hfe;have f3A:=cell_later hbA f3;have HS:Hid (∀w',Below wA.heap.size wA w'->w'.cell? ⟨K,1,none⟩=some (.slice (some ⟨bf,of,none⟩) fs.length c2)/\w'.cell? ⟨w.heap.size,5,none⟩=some (.int .i64 (fi:Int))/\w'.cell? ⟨w.heap.size,6,none⟩=some (.int .i64 x.p)/\w'.cell? ⟨bf,of+fi*3+2,none⟩=some (.slice ca fs[fi].code.length cc)):=fun w' q=>by
  have t5:=ae (ah hX0 q) 5;rw[HFE.out] at t5;exact⟨(hC0.mono q).cells 1,t5,ae (ah hX0 q) 6,cell_later q f3A⟩
 have hcl:=l.code _ (g_m hfi);have hw2:IntKind.i64.wrap ((fs[fi].code.length:Int)-1)=(fs[fi].code.length:Int)-1:=by rw[IntKind.wrap_i64];omega
 have y0:(0:Int)<=(fi:Int):=by omega
 have y1:(fi:Int)<(fs.length:Int):=by omega
 have HC0:=bd wA (fi:Int) 0 ((fs.length:Int)-1) ⟨by omega,by omega⟩;have HC1:Hid (∀w',Below wA.heap.size wA w'->Calls Tryz.prog 72 #[.int .i64 x.p,.int .i64 0,.int .i64 ((fs[fi].code.length:Int)-1)] w' fun e w''=>e=.returned (.bool false)/\Below w'.heap.size w' w''):=fun w' _=>(bg _ _ _ _).mono fun _ _ q=>⟨by rw[q.1,dS,aJ hpn],by rw[q.2];exact Below.refl _ _⟩
 clear hfe hx f3 f3A his hmf hmo h hf hpn;go_enter Tryz.func151,Tryz.ntmps151
 go_upto_region 1 with fail
 rw[<-hwA];clear hwA d0 d1 d2 d3 d4 d5 d6 d7 d8 d9 k1;refine aB (by kernel_rfl) (by kernel_rfl) ?_
 iterate 9
  refine am (v:=?_) (by kernel_rfl) ?_ ?_;rotate_left
  ·intro w' hC;obtain⟨j0,j1,j2,j3⟩:=HS.out w' hC;go_simp;try with_reducible rfl
  try simp only[Act.put,sAr,sZe,sSu]
 refine am (v:=.bool true) (by kernel_rfl) ?_ ?_
 ·intro w' hC;go_simp;refine (HC0.out _ hC).mono ?_;rintro e w'' ⟨rfl,hb2⟩;exact⟨rfl,hC.trans (hb2.mono hC.size)⟩
 try simp only[Act.put,sAr,sZe,sSu]
 iterate 16
  refine am (v:=?_) (by kernel_rfl) ?_ ?_;rotate_left
  ·intro w' hC;obtain⟨j0,j1,j2,j3⟩:=HS.out w' hC;go_simp;try with_reducible rfl
  try simp only[Act.put,sAr,sZe,sSu]
 refine am (v:=.bool false) (by kernel_rfl) ?_ ?_
 ·intro w' hC;go_simp;refine (HC1.out _ hC).mono ?_;rintro e w'' ⟨rfl,hb2⟩;exact⟨rfl,hC.trans (hb2.mono hC.size)⟩
 try simp only[Act.put,sAr,sZe,sSu]
 iterate 2
  refine am (v:=?_) (by kernel_rfl) ?_ ?_;rotate_left
  ·intro w' hC;obtain⟨j0,j1,j2,j3⟩:=HS.out w' hC;go_simp;try with_reducible rfl
  try simp only[Act.put,sAr,sZe,sSu]
 refine wpQuiet_nil ?_;intro w2 q2;have hC1:=hC0.mono q2;have k3:=hC1.cells;have k4:=hC1.free;go_wp2
 (try simp only[Exit.inBlock,Exit.then])
 refine bodyPost_ret (results_none rfl _ _ _) rfl ?_;exact⟨rfl,(hC1.set true).no HF.out,((Rk.of hbA).trans (Rk.of q2)).set _⟩
end
end Go.Proofs.YtbjmgmmekmfjhaaGreatDoor
