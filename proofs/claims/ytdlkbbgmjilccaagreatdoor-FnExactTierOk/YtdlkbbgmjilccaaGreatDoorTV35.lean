/- TV35 -/
import Derived.Test.YtdlkbbgmjilccaaGreatDoorTV29
set_option maxHeartbeats 32000000
set_option maxRecDepth 100000
namespace Go.Proofs.YtdlkbbgmjilccaaGreatDoor
open Go.RowKit
section
variable {ts:List ByteArray} {fs:List Fn} {D:aH} {a1 a2 oa ea:Option Addr} {nt c1 c2 oc ec G base K:Nat} {w:World}
theorem entries_any(x y z u:Nat)(w:World)(hz:bok (z,u)) :
  Calls Tryz.prog 159 #[.agg #[.int .u64 (x:Int),.int .u64 (y:Int),.int .u64 (z:Int),.int .u64 (u:Int)]] w fun e w'=>e=.returned (.agg #[.int .u64 ((bw (z,u) 0).1:Int),.int .u64 ((bw (z,u) 0).2:Int)])/\Below w.heap.size w w':=by
 have hbA:Below w.heap.size w ((w.alloc (.cells #[.int .u64 (x:Int),.int .u64 (y:Int),.int .u64 (z:Int),.int .u64 (u:Int)] 255)).alloc (.cells #[.int .u64 0,.int .u64 0] 253)):=(gM.alloc nL _).alloc (by simp) _;have hR0:=ax (w.alloc (.cells #[.int .u64 (x:Int),.int .u64 (y:Int),.int .u64 (z:Int),.int .u64 (u:Int)] 255)) #[.int .u64 0,.int .u64 0] 253 (w.heap.size+1) (by simp);go_enter Tryz.func159,Tryz.ntmps159
 go_wp2_with fail
 refine (eG z u 0 _ hz (by decide)).mono ?_;rintro e w1 ⟨x',y',hq,rfl,hb⟩;have hR:=ab hR0 hb;have r1:=aa hR;have r2:=am hR;have HQ:Hid (bw (z,u) 0=(x',y')):=hq;clear hq;go_wp2;refine bodyPost_ret (v:=.agg #[.int .u64 (x':Int),.int .u64 (y':Int)]) (by simp[results,Tryz.results159,go_sem,r1]) rfl ⟨by rw[HQ.out],?_⟩;exact ((hbA.trans (hb.mono hbA.size)).setCell (by simp) _).setCell (by simp) _
theorem pB_iff'{P:Prop}:pB P=true↔P:=⟨fun h=>Classical.byContradiction (fun q=>by rw[aw q] at h;cases h),ay⟩
theorem ent_list{k:Nat}(hk:k<fs.length)(hG:Good ts fs){d:List Int}(hD:Done fs fs[k].code d){x y z u:Nat}(hst:flowB (jl fs[k].code d fs[k].code.length)=((x,y),(z,u))) :
  lstI (In (bw (z,u) 0)) 128=lstI (EP fs[k].code d fs[k].code.length) fs[k].code.length/\bok (z,u):=by
 obtain⟨G1,G2,G3⟩:=gj_of hG hk hD;have hbits:=flow_bits (d:=d) G2 nL;have hokk:=(flowB_ok (jl fs[k].code d fs[k].code.length)).2;have hmost:=G1.most;rw[hst] at hbits hokk;refine⟨lstI_as (by omega) (fun j hj=>?_) (fun j h1 h2=>?_),hokk⟩
 ·unfold In EP;rw[dO (by decide) hj,Bool.or_eq_true,decide_eq_true_eq,(hbits j hj).2];constructor
  ·rintro (h | h)
   ·exact .inr h
   ·exact .inl h.symm
  ·rintro (h | h)
   ·exact .inr h.symm
   ·exact .inl h
 ·have:=G1.one;rcases h2 with h2 | h2
  ·omega
  ·have:=h2.lt G1 nL;omega
theorem mem_lstI{P:Nat->Prop}{n:Nat}{v:Int}(h:v∈lstI P n):∃j:Nat,j<n/\v=j/\P j:=by
 unfold lstI at h;obtain⟨j,hj,rfl⟩:=List.mem_map.1 h;obtain⟨h1,h2⟩:=fD.1 hj;exact⟨j,h1,rfl,h2⟩
theorem entryOk_any(h:Look fs D a1 a2 oa ea nt c1 c2 oc ec G base K w)(hDB:DB w)(hG:Good ts fs) :
  Calls Tryz.prog 115 #[.pointer (some ⟨K,0,none⟩)] w fun e w'=>e=.returned (.bool (pB (cq fs D)))/\Below w.heap.size w w':=by
 have HS:Hid (∀w',Below w.heap.size w w'->w'.cell? ⟨K,3,none⟩=some (.int .i64 D.fn)/\w'.cell? ⟨K,9,none⟩=some (.slice a2 fs.length c2)):=fun w' q=>⟨(h.mono q).cells 3,(h.mono q).cells 9⟩
 have HC:Hid (∀w',Below w.heap.size w w'->Calls Tryz.prog 157 #[.slice a2 fs.length c2,.int .i64 D.fn] w' fun e w''=>e=.returned (.bool (pB (Reg D.fn fs.length)))/\Below w'.heap.size w' w''):=fun w' _=>(hasFunc_any _ _ _ _ _).mono fun _ _ q=>⟨q.1,by rw[q.2];exact Below.refl _ _⟩
 by_cases hr:Reg D.fn fs.length
 case neg=>
  rw[aw hr] at HC;have HN:Hid (¬Reg D.fn fs.length):=hr;clear hr h hDB hG;go_enter Tryz.func115,Tryz.ntmps115
  go_upto_region 1 with fail
  refine au (by kernel_rfl) (by kernel_rfl) ?_
  iterate 9
   refine ae (v:=?_) (by kernel_rfl) ?_ ?_;rotate_left
   ·intro w' hC;obtain⟨j0,j1⟩:=HS.out w' hC;go_simp;try with_reducible rfl
   try simp only[Act.put,sAr,sZe,sSu]
  refine ae (v:=.bool false) (by kernel_rfl) ?_ ?_
  ·intro w' hC;go_simp;refine (HC.out _ hC).mono ?_;rintro e w'' ⟨rfl,hb2⟩;exact⟨rfl,hC.trans (hb2.mono hC.size)⟩
  try simp only[Act.put,sAr,sZe,sSu]
  refine ae (v:=?_) (by kernel_rfl) ?_ ?_;rotate_left
  ·intro w' hC;obtain⟨j0,j1⟩:=HS.out w' hC;go_simp;try with_reducible rfl
  try simp only[Act.put,sAr,sZe,sSu]
  refine wpQuiet_nil ?_;intro w2 q2;go_wp2;go_ret
  exact⟨aj (aw (fun q=>HN.out ⟨q.1,by obtain⟨q1,q2,-⟩:=q;omega⟩)).symm,q2⟩
 rw[ay hr] at HC;obtain⟨k,hkf⟩:∃k:Nat,D.fn=k:=⟨D.fn.toNat,by have:=hr.1;omega⟩;have hk:k<fs.length:=by have:=hr.2;omega
 have HKF:Hid (D.fn=(k:Int)):=hkf;have HH:Hid (Look fs D a1 a2 oa ea nt c1 c2 oc ec G base K w):=h;have HDB:Hid (DB w):=hDB;clear hkf hr h hDB;go_enter Tryz.func115,Tryz.ntmps115
 go_upto_region 1 with fail
 refine au (by kernel_rfl) (by kernel_rfl) ?_
 iterate 9
  refine ae (v:=?_) (by kernel_rfl) ?_ ?_;rotate_left
  ·intro w' hC;obtain⟨j0,j1⟩:=HS.out w' hC;go_simp;try with_reducible rfl
  try simp only[Act.put,sAr,sZe,sSu]
 refine ae (v:=.bool true) (by kernel_rfl) ?_ ?_
 ·intro w' hC;go_simp;refine (HC.out _ hC).mono ?_;rintro e w'' ⟨rfl,hb2⟩;exact⟨rfl,hC.trans (hb2.mono hC.size)⟩
 try simp only[Act.put,sAr,sZe,sSu]
 refine ae (v:=?_) (by kernel_rfl) ?_ ?_;rotate_left
 ·intro w' hC;obtain⟨j0,j1⟩:=HS.out w' hC;go_simp;try with_reducible rfl
 try simp only[Act.put,sAr,sZe,sSu]
 refine wpQuiet_nil ?_;intro w2 q2;clear HS HC;have h2:=HH.out.mono q2;obtain⟨b,off,ca,cc,rfl,-,d1,d2,d3,hcode⟩:=h2.fns k hk;obtain⟨-,cur,hG1,hG2,hG3⟩:=h2.hts;obtain⟨g,d,hg1,-,hD,hHt⟩:=hG3 k hk hk;have hgc:w2.cell? ⟨G,k,none⟩=some (.slice (some ⟨g,0,none⟩) fs[k].code.length fs[k].code.length):=by rw[aa hG1];exact hg1
 obtain⟨Gj,Jk,hmod⟩:=gj_of hG hk hD;have F:=cy hmod hk;have P:=hD.hts F;have HB2:Hid (Below w.heap.size w w2):=q2;have HDB2:Hid (DB w2):=HDB.out.mono q2;have HH2:Hid (Look fs D a1 (some ⟨b,off,none⟩) oa ea nt c1 c2 oc ec G base K w2):=h2;have HCO:Hid (bi w2 0 ca fs[k].code):=hcode;have HHT:Hid (Ht w2 g fs[k].code.length d):=hHt;have HS:Hid (∀w',Below w2.heap.size w2 w'->w'.cell? ⟨K,2,none⟩=some (.slice (some ⟨G,0,none⟩) fs.length fs.length)/\w'.cell? ⟨K,3,none⟩=some (.int .i64 (k:Int))/\w'.cell? ⟨K,4,none⟩=some (.int .i64 D.entry)/\w'.cell? ⟨K,5,none⟩=some (.int .i64 D.vals)/\w'.cell? ⟨K,6,none⟩=some (.int .i64 D.nums)/\w'.cell? ⟨K,9,none⟩=some (.slice (some ⟨b,off,none⟩) fs.length c2)/\w'.cell? ⟨b,off+k*3,none⟩=some (.int .i64 fs[k].params)/\w'.cell? ⟨b,off+k*3+1,none⟩=some (.int .i64 fs[k].locals)/\w'.cell? ⟨b,off+k*3+2,none⟩=some (.slice ca fs[k].code.length cc)/\w'.cell? ⟨G,k,none⟩=some (.slice (some ⟨g,0,none⟩) fs[k].code.length fs[k].code.length)):=fun w' q=>by
  have:=(h2.mono q).cells 3;rw[HKF.out] at this;exact⟨(h2.mono q).cells 2,this,(h2.mono q).cells 4,(h2.mono q).cells 5,(h2.mono q).cells 6,(h2.mono q).cells 9,cell_later q d1,cell_later q d2,cell_later q d3,cell_later q hgc⟩
 obtain⟨j0,j1,j2,j3,j4,j5,j6,j7,j8,j9⟩:=HS.out w2 gM;have q:Below w2.heap.size w2 w2.drew:=gM.drew;clear HH HDB q2 h2 d1 d2 d3 hG1 hG2 hG3 hg1 hcode hgc hHt;have z0:(0:Int)<=(k:Int):=by omega
 have z1:(k:Int)<(fs.length:Int):=by omega
 have hone:=F.one;have hmost:=F.most;go_upto_region 3 with fail
 go_cut [3,4] from 16 to 37 (fun s3 s4 wx=>∃gf,s3=.pointer (some ⟨gf,0,none⟩)/\wx.heap[gf]?=some (.cells #[.int .i64 fs[k].params,.int .i64 fs[k].locals,.slice ca fs[k].code.length cc] 107 (0,0))/\s4=.slice (some ⟨g,0,none⟩) fs[k].code.length fs[k].code.length/\Below w2.heap.size w2 wx)
 case first=>
  go_region_held3 (fun w'=>w'.cell? ⟨K,2,none⟩=some (.slice (some ⟨G,0,none⟩) fs.length fs.length)/\w'.cell? ⟨K,3,none⟩=some (.int .i64 (k:Int))/\w'.cell? ⟨K,4,none⟩=some (.int .i64 D.entry)/\w'.cell? ⟨K,5,none⟩=some (.int .i64 D.vals)/\w'.cell? ⟨K,6,none⟩=some (.int .i64 D.nums)/\w'.cell? ⟨K,9,none⟩=some (.slice (some ⟨b,off,none⟩) fs.length c2)/\w'.cell? ⟨b,off+k*3,none⟩=some (.int .i64 fs[k].params)/\w'.cell? ⟨b,off+k*3+1,none⟩=some (.int .i64 fs[k].locals)/\w'.cell? ⟨b,off+k*3+2,none⟩=some (.slice ca fs[k].code.length cc)/\w'.cell? ⟨G,k,none⟩=some (.slice (some ⟨g,0,none⟩) fs[k].code.length fs[k].code.length))
   (first
    | exact⟨j0,j1,j2,j3,j4,j5,j6,j7,j8,j9⟩
    | exact HS.out _ q
    | exact HS.out _ (q.alloc q.size _)
    | exact HS.out _ ((((q.alloc q.size _).setCell q.size _).setCell q.size _).setCell q.size _))
   (fail)
  all_goals
   go_wp2_with fail
   go_meet
   case rel=>
    first
     | exact⟨_,rfl,aY _ _ _,rfl,(gM.alloc nL _).drew⟩
     | exact⟨_,rfl,ah _ _ _,rfl,q.alloc q.size _⟩
 case rest=>
  obtain⟨gf,rfl,hgf,rfl,hq⟩:=hcut;clear j0 j1 j2 j3 j4 j5 j6 j7 j8 j9 q;have HB3:Hid (Below w.heap.size w wc):=HB2.out.trans (hq.mono HB2.out.size);have h3:=HH2.out.mono hq;obtain⟨⟨⟨x,y⟩,⟨z,u⟩⟩,hst⟩:∃st,st=flowB (jl fs[k].code d fs[k].code.length):=⟨_,rfl⟩;obtain⟨hel,hbok⟩:=ent_list hk hG hD hst.symm;have HF47:Hid (∀w',Below wc.heap.size wc w'->Calls Tryz.prog 158 #[.slice ca fs[k].code.length cc,.slice (some ⟨g,0,none⟩) fs[k].code.length fs[k].code.length] w' fun e w''=>e=.returned (.agg #[.int .u64 (x:Int),.int .u64 (y:Int),.int .u64 (z:Int),.int .u64 (u:Int)])/\Below w'.heap.size w' w''):=fun w' q=>by
   have:=flowOf_any g fs[k].code.length cc ca fs[k].code d w' Jk P.len ((HCO.out.mono hq).mono q) ((HHT.out.mono hq).mono q) (by omega);rwa [<-hst] at this
  have HF48:Hid (∀w',Calls Tryz.prog 159 #[.agg #[.int .u64 (x:Int),.int .u64 (y:Int),.int .u64 (z:Int),.int .u64 (u:Int)]] w' fun e w''=>e=.returned (.agg #[.int .u64 ((bw (z,u) 0).1:Int),.int .u64 ((bw (z,u) 0).2:Int)])/\Below w'.heap.size w' w''):=fun w'=>entries_any x y z u w' hbok
  have HF49:Hid (∀w',Below wc.heap.size wc w'->Calls Tryz.prog 160 #[.agg #[.int .u64 ((bw (z,u) 0).1:Int),.int .u64 ((bw (z,u) 0).2:Int)]] w' fun e w''=>∃v,e=.returned v/\DSl w'' w'.heap.size v (lstI (EP fs[k].code d fs[k].code.length) fs[k].code.length)/\Below w'.heap.size w' w''):=fun w' q=>by
   have:=told_any (bw (z,u) 0).1 (bw (z,u) 0).2 w' (fQ hbok (by decide)) ((HDB2.out.mono hq).mono q);rwa [hel] at this
  have hlen:=ei (EP fs[k].code d fs[k].code.length) fs[k].code.length;have HMEM:Hid (∀v∈lstI (EP fs[k].code d fs[k].code.length) fs[k].code.length,∃j:Nat,j<fs[k].code.length/\v=j):=fun v hv=>by
   obtain⟨j,h1,h2,-⟩:=mem_lstI hv;exact⟨j,h1,h2⟩
  have HDEP:Hid (dep fs fs[k].code=d):=fX hD;obtain⟨l,hl⟩:∃l,l=lstI (EP fs[k].code d fs[k].code.length) fs[k].code.length:=⟨_,rfl⟩;have HLE:Hid (l=lstI (EP fs[k].code d fs[k].code.length) fs[k].code.length):=hl;rw[<-hl] at HF49 HMEM hlen;have HHT3:Hid (Ht wc g fs[k].code.length d):=HHT.out.mono hq;have HT:Hid (∀e:Nat,e<fs[k].code.length->ht fs D.fn e=d.getD e (-1)):=fun e he=>by
   unfold ht;rw[HKF.out,dA hk,HDEP.out];simp
  have HPL:Hid (d.length=fs[k].code.length):=P.len;clear hl hst hel hbok HHT HCO HDB2 HH2 HB2 Gj Jk hmod F P hD hG;obtain⟨b1,b2,hbw⟩:∃b1 b2,(bw (z,u) 0)=(b1,b2):=⟨_,_,rfl⟩;rw[hbw] at HF48 HF49;dsimp only at HF48 HF49
  clear hbw;have HS:Hid (∀w',Below wc.heap.size wc w'->w'.cell? ⟨K,2,none⟩=some (.slice (some ⟨G,0,none⟩) fs.length fs.length)/\w'.cell? ⟨K,3,none⟩=some (.int .i64 (k:Int))/\w'.cell? ⟨K,4,none⟩=some (.int .i64 D.entry)/\w'.cell? ⟨K,5,none⟩=some (.int .i64 D.vals)/\w'.cell? ⟨K,6,none⟩=some (.int .i64 D.nums)/\w'.cell? ⟨K,9,none⟩=some (.slice (some ⟨b,off,none⟩) fs.length c2)/\w'.cell? ⟨gf,1,none⟩=some (.int .i64 fs[k].locals)/\w'.cell? ⟨gf,2,none⟩=some (.slice ca fs[k].code.length cc)):=fun w' q=>by
   have:=(h3.mono q).cells 3;rw[HKF.out] at this;exact⟨(h3.mono q).cells 2,this,(h3.mono q).cells 4,(h3.mono q).cells 5,(h3.mono q).cells 6,(h3.mono q).cells 9,aa (ab hgf q) 1,aa (ab hgf q) 2⟩
  obtain⟨j0,j1,j2,j3,j4,j5,j6,j7⟩:=HS.out wc gM;have q:Below wc.heap.size wc wc.drew:=gM.drew;have HGF:Hid (wc.heap[gf]?=some (.cells #[.int .i64 fs[k].params,.int .i64 fs[k].locals,.slice ca fs[k].code.length cc] 107 (0,0))):=hgf;have HH3:Hid (Look fs D a1 (some ⟨b,off,none⟩) oa ea nt c1 c2 oc ec G base K wc):=h3;clear hgf h3 hq;obtain⟨bb,hbb⟩:∃bb,bb=(l.any fun x=>decide (x=D.entry)):=⟨_,rfl⟩;have HBB:Hid (bb=(l.any fun x=>decide (x=D.entry))):=hbb;clear hbb;go_upto_region 4 with fail
  go_region_held3 (fun w'=>w'.cell? ⟨K,2,none⟩=some (.slice (some ⟨G,0,none⟩) fs.length fs.length)/\w'.cell? ⟨K,3,none⟩=some (.int .i64 (k:Int))/\w'.cell? ⟨K,4,none⟩=some (.int .i64 D.entry)/\w'.cell? ⟨K,5,none⟩=some (.int .i64 D.vals)/\w'.cell? ⟨K,6,none⟩=some (.int .i64 D.nums)/\w'.cell? ⟨K,9,none⟩=some (.slice (some ⟨b,off,none⟩) fs.length c2)/\w'.cell? ⟨gf,1,none⟩=some (.int .i64 fs[k].locals)/\w'.cell? ⟨gf,2,none⟩=some (.slice ca fs[k].code.length cc))
   (first
    | exact⟨j0,j1,j2,j3,j4,j5,j6,j7⟩
    | exact HS.out _ q)
   (first
    | (go_at_call 158;refine (HF47.out _ q).mono ?_;rintro e wa ⟨rfl,kd⟩;have q:=q.trans (kd.mono q.size))
    | (go_at_call 159;refine (HF48.out _).mono ?_;rintro e wb ⟨rfl,kd⟩;have q:=q.trans (kd.mono q.size))
    | (go_at_call 160;refine (HF49.out _ q).mono ?_;rintro e wd ⟨v,rfl,hds,kd⟩;obtain⟨av,cv,rfl,hints⟩:=hds.form;have q:=q.trans (kd.mono q.size))
    | (go_at_call 149;refine (contains_any _ l _ _ _ (by omega) (hints.low (Nat.zero_le _))).mono ?_;rintro e we ⟨rfl,hwe⟩;rw[hwe,<-HBB.out];clear hwe we))
  all_goals
   have HB4:Hid (Below w.heap.size w wd):=HB3.out.trans (q.mono HB3.out.size);have HGF4:=ab HGF.out q;have HH4:=HH3.out.mono q;have HHT4:=HHT3.out.mono q;clear j0 j1 j2 j3 j4 j5 j6 j7 HF47 HF48 HF49 HHT3 HGF HH3 HB3 HS
   cases bb
   case false=>
    have HN:Hid (¬D.entry∈l):=fun hin=>by
     have:=HBB.out;rw[List.any_eq_true.2 ⟨_,hin,by simp⟩] at this
     cases this
    go_wp2;go_ret
    refine⟨aj (aw ?_).symm,HB4.out⟩;rintro⟨q1,q3,q4,-⟩;have hkk:D.fn.toNat=k:=by rw[HKF.out];simp
    simp only[hkk] at q4
    rw[HDEP.out] at q4;exact HN.out (by rw[HLE.out];exact q4)
   have hin:D.entry∈l:=by
    obtain⟨x,hx,hx2⟩:=List.any_eq_true.1 HBB.out.symm;rw[<-of_decide_eq_true hx2];exact hx
   obtain⟨en,hen,hee⟩:=HMEM.out _ hin;obtain⟨cur,hc1,hc2,hc3,hc4⟩:=HHT4;have hpl:=HPL.out;obtain⟨dv,hdv⟩:∃dv,dv=d[en]'(by omega):=⟨_,rfl⟩;have hgd:wd.cell? ⟨g,en,none⟩=some (.int .i64 dv):=by rw[aa hc1,hdv];exact hc4 en (by omega)
   have HDV:Hid (ht fs D.fn D.entry=dv):=by
    show _=_
    rw[hee,HT.out en hen,hdv,List.getD_eq_getElem?_getD,List.getElem?_eq_getElem (by omega)];rfl
   have HEE:Hid (D.entry=(en:Int)):=hee;have HIN:Hid (D.entry∈l):=hin;have HS:Hid (∀w',Below wd.heap.size wd w'->w'.cell? ⟨K,2,none⟩=some (.slice (some ⟨G,0,none⟩) fs.length fs.length)/\w'.cell? ⟨K,3,none⟩=some (.int .i64 (k:Int))/\w'.cell? ⟨K,4,none⟩=some (.int .i64 (en:Int))/\w'.cell? ⟨K,5,none⟩=some (.int .i64 D.vals)/\w'.cell? ⟨K,6,none⟩=some (.int .i64 D.nums)/\w'.cell? ⟨K,9,none⟩=some (.slice (some ⟨b,off,none⟩) fs.length c2)/\w'.cell? ⟨gf,1,none⟩=some (.int .i64 fs[k].locals)/\w'.cell? ⟨g,en,none⟩=some (.int .i64 dv)):=fun w' q=>by
    have t3:=(HH4.mono q).cells 3;rw[HKF.out] at t3;have t4:=(HH4.mono q).cells 4;rw[HEE.out] at t4;exact⟨(HH4.mono q).cells 2,t3,t4,(HH4.mono q).cells 5,(HH4.mono q).cells 6,(HH4.mono q).cells 9,aa (ab HGF4 q) 1,cell_later q hgd⟩
   have y0:(0:Int)<=(en:Int):=by omega
   have y1:(en:Int)<(fs[k].code.length:Int):=by omega
   have HC0:Hid (∀w',Below wd.heap.size wd w'->Calls Tryz.prog 30 #[.int .i64 D.vals,.int .i64 (IntKind.i64.wrap (fs[k].locals+dv)),.int .i64 400] w' fun e w''=>e=.returned (.bool (pB (Btw D.vals (IntKind.i64.wrap (fs[k].locals+dv)) 400)))/\Below w'.heap.size w' w''):=fun w' _=>(bd _ _ _ _).mono fun _ _ q=>⟨q.1,by rw[q.2];exact Below.refl _ _⟩
   have HC1:Hid (∀w',Below wd.heap.size wd w'->Calls Tryz.prog 30 #[.int .i64 D.nums,.int .i64 0,.int .i64 400] w' fun e w''=>e=.returned (.bool (pB (Btw D.nums 0 400)))/\Below w'.heap.size w' w''):=fun w' _=>(bd _ _ _ _).mono fun _ _ q=>⟨q.1,by rw[q.2];exact Below.refl _ _⟩
   have HE:Hid (cq fs D↔Btw D.vals (IntKind.i64.wrap (fs[k].locals+dv)) 400/\Btw D.nums 0 400):=by
    show _↔_
    have hkk:D.fn.toNat=k:=by rw[HKF.out];simp
    unfold cq;simp only[hkk,HDEP.out,HDV.out,<-HLE.out]
    exact⟨fun q=>⟨q.2.2.2.1,q.2.2.2.2⟩,fun q=>⟨by rw[HKF.out];omega,hk,HIN.out,q⟩⟩
   clear hin hen hee hc1 hc2 hc3 hc4 hdv hgd HH4 HGF4 HMEM HBB;by_cases hv:Btw D.vals (IntKind.i64.wrap (fs[k].locals+dv)) 400
   case neg=>
    rw[aw hv] at HC0;have HN:Hid (¬Btw D.vals (IntKind.i64.wrap (fs[k].locals+dv)) 400):=hv;clear hv;go_upto_region 6 with fail
    refine au (by kernel_rfl) (by kernel_rfl) ?_
    iterate 16
     refine ae (v:=?_) (by kernel_rfl) ?_ ?_;rotate_left
     ·intro w' hC;obtain⟨j0,j1,j2,j3,j4,j5,j6,j7⟩:=HS.out w' hC;go_simp;try with_reducible rfl
     try simp only[Act.put,sAr,sZe,sSu]
    refine ae (v:=.bool false) (by kernel_rfl) ?_ ?_
    ·intro w' hC;go_simp;refine (HC0.out _ hC).mono ?_;rintro e w'' ⟨rfl,hb2⟩;exact⟨rfl,hC.trans (hb2.mono hC.size)⟩
    try simp only[Act.put,sAr,sZe,sSu]
    refine ae (v:=?_) (by kernel_rfl) ?_ ?_;rotate_left
    ·intro w' hC;obtain⟨j0,j1,j2,j3,j4,j5,j6,j7⟩:=HS.out w' hC;go_simp;try with_reducible rfl
    try simp only[Act.put,sAr,sZe,sSu]
    iterate 6 go_big_quiet_skip
    iterate 2
     refine ae (v:=?_) (by kernel_rfl) ?_ ?_;rotate_left
     ·intro w' hC;obtain⟨j0,j1,j2,j3,j4,j5,j6,j7⟩:=HS.out w' hC;go_simp;try with_reducible rfl
     try simp only[Act.put,sAr,sZe,sSu]
    refine wpQuiet_nil ?_;intro w2 q2;go_wp2;go_ret
    exact⟨aj (aw (fun q=>HN.out (HE.out.1 q).1)).symm,HB4.out.trans (q2.mono HB4.out.size)⟩
   rw[ay hv] at HC0;have HV:Hid (Btw D.vals (IntKind.i64.wrap (fs[k].locals+dv)) 400):=hv;clear hv;go_upto_region 6 with fail
   refine au (by kernel_rfl) (by kernel_rfl) ?_
   iterate 16
    refine ae (v:=?_) (by kernel_rfl) ?_ ?_;rotate_left
    ·intro w' hC;obtain⟨j0,j1,j2,j3,j4,j5,j6,j7⟩:=HS.out w' hC;go_simp;try with_reducible rfl
    try simp only[Act.put,sAr,sZe,sSu]
   refine ae (v:=.bool true) (by kernel_rfl) ?_ ?_
   ·intro w' hC;go_simp;refine (HC0.out _ hC).mono ?_;rintro e w'' ⟨rfl,hb2⟩;exact⟨rfl,hC.trans (hb2.mono hC.size)⟩
   try simp only[Act.put,sAr,sZe,sSu]
   iterate 6
    refine ae (v:=?_) (by kernel_rfl) ?_ ?_;rotate_left
    ·intro w' hC;obtain⟨j0,j1,j2,j3,j4,j5,j6,j7⟩:=HS.out w' hC;go_simp;try with_reducible rfl
    try simp only[Act.put,sAr,sZe,sSu]
   refine ae (v:=.bool (pB (Btw D.nums 0 400))) (by kernel_rfl) ?_ ?_
   ·intro w' hC;go_simp;refine (HC1.out _ hC).mono ?_;rintro e w'' ⟨rfl,hb2⟩;exact⟨rfl,hC.trans (hb2.mono hC.size)⟩
   try simp only[Act.put,sAr,sZe,sSu]
   iterate 2
    refine ae (v:=?_) (by kernel_rfl) ?_ ?_;rotate_left
    ·intro w' hC;obtain⟨j0,j1,j2,j3,j4,j5,j6,j7⟩:=HS.out w' hC;go_simp;try with_reducible rfl
    try simp only[Act.put,sAr,sZe,sSu]
   refine wpQuiet_nil ?_;intro w2 q2;go_wp2;go_ret
   exact⟨bx (by rw[pB_iff',HE.out];exact⟨fun q=>⟨HV.out,q⟩,fun q=>q.2⟩),HB4.out.trans (q2.mono HB4.out.size)⟩
end
section
variable {fs:List Fn} {a1 a2 oa ea:Option Addr} {nt c1 c2 oc ec K:Nat} {D:aH} {wK w:World} {b:Bool}
theorem sOp22_any(i:Nat)(hi:i<D.ops.length)(hop:D.ops[i].op=22)(his:(insD fs D.ops[i].f D.ops[i].p).isSome=true)(l:SLim fs D K wK a2 oa ea)(h:Chk a1 a2 oa ea nt c1 c2 oc ec fs.length K D wK b w) :
  Calls Tryz.prog 93 #[.pointer (some ⟨K,0,none⟩),.int .i64 (i:Nat)] w fun e w'=>e=.returned (.tuple #[])/\Chk a1 a2 oa ea nt c1 c2 oc ec fs.length K D wK (b || !pB (FopP fs D i D.ops[i])) w'/\Rk K w w':=by
 obtain⟨hmf,hmo,-⟩:=l.at h;obtain⟨fi,pi,hfi,hfe,hpe,hpi⟩:=bh his;obtain⟨bf,of,ca,cc,rfl,-,-,-,f3,-⟩:=hmf fi hfi;obtain⟨bo,oo,rfl,-,d0,d1,d2,d3,d4,d5,d6,d7,d8,d9⟩:=hmo i hi;have hsz:=l.fast.1.2 _ (n_l hi);obtain⟨x,hx⟩:∃x,x=D.ops[i]:=⟨_,rfl⟩;have HF:Hid (FopP fs D i D.ops[i]↔aA fs.length D i (sh 22 0) x.d/\aA fs.length D i (sh 22 1) x.a/\aA fs.length D i (sh 22 2) x.b/\aA fs.length D i (sh 22 3) x.x/\a6 fs.length (sh 22 4) x.v):=by rw[hx];exact bj 22 hop (by decide) (by decide) his
 rw[hop] at d0;rw[<-hx] at d1 d2 d3 d4 d5 d6 d7 d8 d9 hfe hpe hsz;have HX:Hid (x=D.ops[i]):=hx;have hsz':x.v.s.size<=1048576:=hsz;have z1:(i:Int)<(D.ops.length:Int):=by omega
 have k1:=h.cells;have hwk:K<w.heap.size:=aq h.blk;obtain⟨wA,hwA⟩:∃wA,wA=w.alloc (.cells #[.int .i64 22,.int .i64 x.d,.int .i64 x.a,.int .i64 x.b,.int .i64 x.x,.int .i64 x.f,.int .i64 x.p,.int .i64 x.v.k,.int .i64 x.v.n,.string x.v.s] 177):=⟨_,rfl⟩;have hbA:Below w.heap.size w wA:=by rw[hwA];exact gM.alloc nL _
 have hX0:wA.heap[w.heap.size]?=some (.cells #[.int .i64 22,.int .i64 x.d,.int .i64 x.a,.int .i64 x.b,.int .i64 x.x,.int .i64 x.f,.int .i64 x.p,.int .i64 x.v.k,.int .i64 x.v.n,.string x.v.s] 177 (0,0)):=by rw[hwA];exact ah _ _ _
 have hC0:=h.mono hbA;have hne:w.heap.size≠K:=by omega
 have HFE:Hid (x.f=(fi:Int)):=hfe;have HPE:Hid (x.p=(pi:Int)):=hpe;have f3A:=cell_later hbA f3;have HS:Hid (∀w',Below wA.heap.size wA w'->w'.cell? ⟨K,1,none⟩=some (.slice (some ⟨bf,of,none⟩) fs.length c2)/\w'.cell? ⟨w.heap.size,5,none⟩=some (.int .i64 (fi:Int))/\w'.cell? ⟨w.heap.size,6,none⟩=some (.int .i64 (pi:Int))/\w'.cell? ⟨bf,of+fi*3+2,none⟩=some (.slice ca fs[fi].code.length cc)):=fun w' q=>by
  have t5:=aa (ab hX0 q) 5;have t6:=aa (ab hX0 q) 6;rw[HFE.out] at t5;rw[HPE.out] at t6;exact⟨(hC0.mono q).cells 1,t5,t6,cell_later q f3A⟩
 have hcl:=l.code _ (n_l hfi);have hnf:=l.nf;have hw1:IntKind.i64.wrap ((fs.length:Int)-1)=(fs.length:Int)-1:=by rw[IntKind.wrap_i64];omega
 have hw2:IntKind.i64.wrap ((fs[fi].code.length:Int)-1)=(fs[fi].code.length:Int)-1:=by rw[IntKind.wrap_i64];omega
 have y0:(0:Int)<=(fi:Int):=by omega
 have y1:(fi:Int)<(fs.length:Int):=by omega
 have HC0:=aX wA (fi:Int) 0 ((fs.length:Int)-1) ⟨by omega,by omega⟩;have HC1:=aX wA (pi:Int) 0 ((fs[fi].code.length:Int)-1) ⟨by omega,by omega⟩;have HL:Hid (SLim fs D K wK (some ⟨bf,of,none⟩) (some ⟨bo,oo,none⟩) ea):=l;clear hfe hpe hx f3 f3A hop his hmf hmo hsz h;go_enter Tryz.func93,Tryz.ntmps93
 go_upto_region 1 with fail
 rw[<-hwA];clear hwA d0 d1 d2 d3 d4 d5 d6 d7 d8 d9 k1;refine au (by kernel_rfl) (by kernel_rfl) ?_
 iterate 9
  refine ae (v:=?_) (by kernel_rfl) ?_ ?_;rotate_left
  ·intro w' hC;obtain⟨j0,j1,j2,j3⟩:=HS.out w' hC;go_simp;try with_reducible rfl
  try simp only[Act.put,sAr,sZe,sSu]
 refine ae (v:=.bool true) (by kernel_rfl) ?_ ?_
 ·intro w' hC;go_simp;refine (HC0.out _ hC).mono ?_;rintro e w'' ⟨rfl,hb2⟩;exact⟨rfl,hC.trans (hb2.mono hC.size)⟩
 try simp only[Act.put,sAr,sZe,sSu]
 iterate 16
  refine ae (v:=?_) (by kernel_rfl) ?_ ?_;rotate_left
  ·intro w' hC;obtain⟨j0,j1,j2,j3⟩:=HS.out w' hC;go_simp;try with_reducible rfl
  try simp only[Act.put,sAr,sZe,sSu]
 refine ae (v:=.bool true) (by kernel_rfl) ?_ ?_
 ·intro w' hC;go_simp;refine (HC1.out _ hC).mono ?_;rintro e w'' ⟨rfl,hb2⟩;exact⟨rfl,hC.trans (hb2.mono hC.size)⟩
 try simp only[Act.put,sAr,sZe,sSu]
 iterate 2
  refine ae (v:=?_) (by kernel_rfl) ?_ ?_;rotate_left
  ·intro w' hC;obtain⟨j0,j1,j2,j3⟩:=HS.out w' hC;go_simp;try with_reducible rfl
  try simp only[Act.put,sAr,sZe,sSu]
 refine wpQuiet_nil ?_;intro w2 q2;have hC1:=hC0.mono q2;have hX1:=ab hX0 q2;have R1:Rk K w w2:=(Rk.of hbA).trans (Rk.of q2);clear HS HC0 HC1 hC0 hX0 hbA q2 hw2 y0 y1;have x1:=aa hX1;go_wp2_with fail
 refine (exits22_any _).mono ?_;rintro e w3 ⟨rfl,hw⟩;rw[hw];clear hw w3;go_wp2_with fail
 refine (aZ x.x HL.out.nex hC1).mono ?_;rintro e w11 ⟨rfl,hC2,hr⟩;have hX2:=ak hX1 hne hr;have R2:=R1.trans hr;clear x1 hX1 R1 hC1 hr;have x2:=aa hX2;go_wp2_with fail
 refine (aJ x.v hC2).mono ?_;rintro e w12 ⟨rfl,hC3,hr⟩;have hX3:=ak hX2 hne hr;have R3:=R2.trans hr;clear x2 hX2 R2 hC2 hr;have x3:=aa hX3;go_wp2_with fail
 refine (aD x.d hC3).mono ?_;rintro e w13 ⟨rfl,hC4,hr⟩;have hX4:=ak hX3 hne hr;have R4:=R3.trans hr;clear x3 hX3 R3 hC3 hr;have x4:=aa hX4;go_wp2_with fail
 refine (aN x.a HL.out.vals hC4).mono ?_;rintro e w14 ⟨rfl,hC5,hr⟩;have hX5:=ak hX4 hne hr;have R5:=R4.trans hr;clear x4 hX4 R4 hC4 hr;have x5:=aa hX5;go_wp2_with fail
 have HC:Hid (Chk a1 (some ⟨bf,of,none⟩) (some ⟨bo,oo,none⟩) ea nt c1 c2 oc ec fs.length K D wK _ w14):=hC5;have HXX:=hX5;have HS:Hid (∀w',Below w14.heap.size w14 w'->w'.cell? ⟨K,1,none⟩=some (.slice (some ⟨bf,of,none⟩) fs.length c2)/\w'.cell? ⟨w.heap.size,3,none⟩=some (.int .i64 x.b)):=fun w' q=>⟨(HC.out.mono q).cells 1,aa (ab HXX q) 3⟩
 obtain⟨j0,j1⟩:=HS.out _ gM;have q:Below w14.heap.size w14 w14.drew:=gM.drew;clear x5 hC5
 go_region_held3 (fun w'=>w'.cell? ⟨K,1,none⟩=some (.slice (some ⟨bf,of,none⟩) fs.length c2)/\w'.cell? ⟨w.heap.size,3,none⟩=some (.int .i64 x.b))
  (first | exact⟨j0,j1⟩ | exact HS.out _ q | exact⟨hc.cells 1,aa (ak (ab HXX q) hne hr) 3⟩)
  (first
   | (go_at_call 45;refine (a8 _ _ _ _).mono ?_;rintro e wz ⟨rfl,hw⟩;rw[hw,dr];clear hw wz)
   | (go_at_call 136;refine (bc _ (HC.out.mono q)).mono ?_;rintro e wy ⟨rfl,hc,hr⟩))
 have hC6:=hc;have R6:=(R5.trans (Rk.of q)).trans hr;clear HS HC j0 j1;go_wp2;go_end0
 refine⟨rfl,?_,R6⟩;refine (hC6.both.both.both.both).iff ?_;rw[HF.out];exact⟨fun ⟨s0,s1,s2,s3,s4⟩=>⟨s2,s3,s4,s0,s1⟩,fun ⟨s2,s3,s4,s0,s1⟩=>⟨s0,s1,s2,s3,s4⟩⟩
end
end Go.Proofs.YtdlkbbgmjilccaaGreatDoor
