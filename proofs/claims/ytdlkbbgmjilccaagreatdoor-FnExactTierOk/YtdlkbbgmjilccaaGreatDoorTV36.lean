/- TV36 -/
import Derived.Test.YtdlkbbgmjilccaaGreatDoorTV30
import Derived.Test.YtdlkbbgmjilccaaGreatDoorTV34
import Derived.Test.YtdlkbbgmjilccaaGreatDoorTV35
set_option maxHeartbeats 32000000
set_option maxRecDepth 100000
namespace Go.Proofs.YtdlkbbgmjilccaaGreatDoor
open Go.RowKit
section
variable {ts:List ByteArray} {fs:List Fn} {D:aH} {a1 a2 oa ea:Option Addr} {nt c1 c2 oc ec G base K:Nat} {w:World}
theorem opsOk_any(h:Look fs D a1 a2 oa ea nt c1 c2 oc ec G base K w)(lim:Lim fs D) :
  Calls Tryz.prog 116 #[.pointer (some ⟨K,0,none⟩)] w fun e w'=>e=.returned (.bool (pB (OpsP fs D)))/\Below w.heap.size w w':=by
 have HS0:Hid (∀w',Below w.heap.size w w'->w'.cell? ⟨K,10,none⟩=some (.slice oa D.ops.length oc)/\w'.cell? ⟨K,3,none⟩=some (.int .i64 D.fn)):=fun w' q=>⟨(h.mono q).cells 10,(h.mono q).cells 3⟩
 have HC0:Hid (∀w',Below w.heap.size w w'->Calls Tryz.prog 30 #[.int .i64 D.ops.length,.int .i64 1,.int .i64 1500] w' fun e w''=>e=.returned (.bool (pB (Btw (D.ops.length:Int) 1 1500)))/\Below w'.heap.size w' w''):=fun w' _=>(bd _ _ _ _).mono fun _ _ q=>⟨q.1,by rw[q.2];exact Below.refl _ _⟩
 have HC2:Hid (∀w',Below w.heap.size w w'->Calls Tryz.prog 162 #[.slice oa D.ops.length oc,.func (.func 163) #[.pointer (some ⟨K,0,none⟩)] #[]] w' fun e w''=>e=.returned (.bool (pB (∀i (h:i<D.ops.length),FopP fs D i D.ops[i])))/\Below w'.heap.size w' w''):=fun w' q=>allFOp_any (.pointer (some ⟨K,0,none⟩)) (fun i x=>FopP fs D i x) oa D.ops oc w' lim.fast.1.1 ((h.mono q).ops) (fun i hi w'' q'=>opOk_any i D.ops[i] (lim.fast.1.2 _ (n_l hi)) ((h.mono q).mono q') lim)
 by_cases h0:Btw (D.ops.length:Int) 1 1500
 case neg=>
  rw[aw h0] at HC0;have HN:Hid (¬(Btw (D.ops.length:Int) 1 1500)):=h0;clear h0 h lim;go_enter Tryz.func116,Tryz.ntmps116
  go_upto_region 1 with fail
  refine au (by kernel_rfl) (by kernel_rfl) ?_
  iterate 5
   refine ae (v:=?_) (by kernel_rfl) ?_ ?_;rotate_left
   ·intro w' hC;obtain⟨j0,j1⟩:=HS0.out w' hC;go_simp;try with_reducible rfl
   try simp only[Act.put,sAr,sZe,sSu]
  refine ae (v:=.bool false) (by kernel_rfl) ?_ ?_
  ·intro w' hC;go_simp;refine (HC0.out _ hC).mono ?_;rintro e w'' ⟨rfl,hb2⟩;exact⟨rfl,hC.trans (hb2.mono hC.size)⟩
  try simp only[Act.put,sAr,sZe,sSu]
  refine ae (v:=?_) (by kernel_rfl) ?_ ?_;rotate_left
  ·intro w' hC;obtain⟨j0,j1⟩:=HS0.out w' hC;go_simp;try with_reducible rfl
  try simp only[Act.put,sAr,sZe,sSu]
  iterate 14 go_big_quiet_skip
  iterate 2
   refine ae (v:=?_) (by kernel_rfl) ?_ ?_;rotate_left
   ·intro w' hC;obtain⟨j0,j1⟩:=HS0.out w' hC;go_simp;try with_reducible rfl
   try simp only[Act.put,sAr,sZe,sSu]
  iterate 7 go_big_quiet_skip
  iterate 2
   refine ae (v:=?_) (by kernel_rfl) ?_ ?_;rotate_left
   ·intro w' hC;obtain⟨j0,j1⟩:=HS0.out w' hC;go_simp;try with_reducible rfl
   try simp only[Act.put,sAr,sZe,sSu]
  refine wpQuiet_nil ?_;intro w2 q2;go_wp2;go_ret
  exact⟨aj (aw (fun q=>HN.out (by have:=q.1;exact⟨by omega,by omega⟩))).symm,q2⟩
 rw[ay h0] at HC0;have H0:Hid (Btw (D.ops.length:Int) 1 1500):=h0;obtain⟨lx,hlx⟩:∃lx,lx=D.ops.length-1:=⟨_,rfl⟩;have hl1:lx<D.ops.length:=by have:=h0.1;omega
 have hw1:IntKind.i64.wrap ((D.ops.length:Int)-1)=(lx:Int):=by rw[IntKind.wrap_i64];have:=h0.1;have:=h0.2;omega
 have hl2:(lx:Int)<(D.ops.length:Int):=by omega
 have hl3:(0:Int)<=(lx:Int):=by omega
 have HLX:Hid (lx=D.ops.length-1):=hlx;obtain⟨b,off,rfl,-,d0,-⟩:=h.ops lx hl1;have HS:Hid (∀w',Below w.heap.size w w'->w'.cell? ⟨K,10,none⟩=some (.slice (some ⟨b,off,none⟩) D.ops.length oc)/\w'.cell? ⟨b,off+lx*10,none⟩=some (.int .i64 D.ops[lx].op)):=fun w' q=>⟨(HS0.out w' q).1,cell_later q d0⟩
 have HC1:Hid (∀w',Below w.heap.size w w'->Calls Tryz.prog 161 #[.int .i64 D.ops[lx].op] w' fun e w''=>e=.returned (.bool (pB (eH D.ops[lx].op)))/\Below w'.heap.size w' w''):=fun w' _=>(endOp_any _ _).mono fun _ _ q=>⟨q.1,by rw[q.2];exact Below.refl _ _⟩
 have HI:Hid (OpsP fs D↔eH D.ops[lx].op/\∀i (h:i<D.ops.length),FopP fs D i D.ops[i]):=by
  show _↔_
  have e:D.ops.length-1=lx:=HLX.out.symm;unfold OpsP;simp only[e]
  exact⟨fun q=>⟨by obtain⟨_,q⟩:=q.2.1;exact q,q.2.2⟩,fun q=>⟨⟨by have:=H0.out.1;omega,by have:=H0.out.2;omega⟩,⟨hl1,q.1⟩,q.2⟩⟩
 clear HS0 h0 hlx d0 h lim;by_cases h1:eH D.ops[lx].op
 case neg=>
  rw[aw h1] at HC1;have HN:Hid (¬eH D.ops[lx].op):=h1;clear h1;go_enter Tryz.func116,Tryz.ntmps116
  go_upto_region 1 with fail
  refine au (by kernel_rfl) (by kernel_rfl) ?_
  iterate 5
   refine ae (v:=?_) (by kernel_rfl) ?_ ?_;rotate_left
   ·intro w' hC;obtain⟨j0,j1⟩:=HS.out w' hC;go_simp;try with_reducible rfl
   try simp only[Act.put,sAr,sZe,sSu]
  refine ae (v:=.bool true) (by kernel_rfl) ?_ ?_
  ·intro w' hC;go_simp;refine (HC0.out _ hC).mono ?_;rintro e w'' ⟨rfl,hb2⟩;exact⟨rfl,hC.trans (hb2.mono hC.size)⟩
  try simp only[Act.put,sAr,sZe,sSu]
  iterate 14
   refine ae (v:=?_) (by kernel_rfl) ?_ ?_;rotate_left
   ·intro w' hC;obtain⟨j0,j1⟩:=HS.out w' hC;go_simp;try with_reducible rfl
   try simp only[Act.put,sAr,sZe,sSu]
  refine ae (v:=.bool false) (by kernel_rfl) ?_ ?_
  ·intro w' hC;go_simp;refine (HC1.out _ hC).mono ?_;rintro e w'' ⟨rfl,hb2⟩;exact⟨rfl,hC.trans (hb2.mono hC.size)⟩
  try simp only[Act.put,sAr,sZe,sSu]
  iterate 2
   refine ae (v:=?_) (by kernel_rfl) ?_ ?_;rotate_left
   ·intro w' hC;obtain⟨j0,j1⟩:=HS.out w' hC;go_simp;try with_reducible rfl
   try simp only[Act.put,sAr,sZe,sSu]
  iterate 7 go_big_quiet_skip
  iterate 2
   refine ae (v:=?_) (by kernel_rfl) ?_ ?_;rotate_left
   ·intro w' hC;obtain⟨j0,j1⟩:=HS.out w' hC;go_simp;try with_reducible rfl
   try simp only[Act.put,sAr,sZe,sSu]
  refine wpQuiet_nil ?_;intro w2 q2;go_wp2;go_ret
  exact⟨aj (aw (fun q=>HN.out (HI.out.1 q).1)).symm,q2⟩
 rw[ay h1] at HC1;have H1:Hid (eH D.ops[lx].op):=h1;clear h1;go_enter Tryz.func116,Tryz.ntmps116
 go_upto_region 1 with fail
 refine au (by kernel_rfl) (by kernel_rfl) ?_
 iterate 5
  refine ae (v:=?_) (by kernel_rfl) ?_ ?_;rotate_left
  ·intro w' hC;obtain⟨j0,j1⟩:=HS.out w' hC;go_simp;try with_reducible rfl
  try simp only[Act.put,sAr,sZe,sSu]
 refine ae (v:=.bool true) (by kernel_rfl) ?_ ?_
 ·intro w' hC;go_simp;refine (HC0.out _ hC).mono ?_;rintro e w'' ⟨rfl,hb2⟩;exact⟨rfl,hC.trans (hb2.mono hC.size)⟩
 try simp only[Act.put,sAr,sZe,sSu]
 iterate 14
  refine ae (v:=?_) (by kernel_rfl) ?_ ?_;rotate_left
  ·intro w' hC;obtain⟨j0,j1⟩:=HS.out w' hC;go_simp;try with_reducible rfl
  try simp only[Act.put,sAr,sZe,sSu]
 refine ae (v:=.bool true) (by kernel_rfl) ?_ ?_
 ·intro w' hC;go_simp;refine (HC1.out _ hC).mono ?_;rintro e w'' ⟨rfl,hb2⟩;exact⟨rfl,hC.trans (hb2.mono hC.size)⟩
 try simp only[Act.put,sAr,sZe,sSu]
 iterate 8
  refine ae (v:=?_) (by kernel_rfl) ?_ ?_;rotate_left
  ·intro w' hC;obtain⟨j0,j1⟩:=HS.out w' hC;go_simp;try with_reducible rfl
  try simp only[Act.put,sAr,sZe,sSu]
 refine ae (v:=.bool (pB (∀i (h:i<D.ops.length),FopP fs D i D.ops[i]))) (by kernel_rfl) ?_ ?_
 ·intro w' hC;go_simp;refine (HC2.out _ hC).mono ?_;rintro e w'' ⟨rfl,hb2⟩;exact⟨rfl,hC.trans (hb2.mono hC.size)⟩
 try simp only[Act.put,sAr,sZe,sSu]
 iterate 2
  refine ae (v:=?_) (by kernel_rfl) ?_ ?_;rotate_left
  ·intro w' hC;obtain⟨j0,j1⟩:=HS.out w' hC;go_simp;try with_reducible rfl
  try simp only[Act.put,sAr,sZe,sSu]
 refine wpQuiet_nil ?_;intro w2 q2;go_wp2;go_ret
 exact⟨bx (by rw[cT,HI.out];exact⟨fun q=>⟨H1.out,q⟩,fun q=>q.2⟩),q2⟩
theorem exitsOk_any(h:Look fs D a1 a2 oa ea nt c1 c2 oc ec G base K w)(lim:Lim fs D) :
  Calls Tryz.prog 117 #[.pointer (some ⟨K,0,none⟩)] w fun e w'=>e=.returned (.bool (pB (ew fs D)))/\Below w.heap.size w w':=by
 have c:=h.cells;by_cases h0:D.exits.length<=1500
 case neg=>
  have g0:¬(D.exits.length:Int)<=1500:=by omega
  go_enter Tryz.func117,Tryz.ntmps117
  go_wp2;go_ret
  exact⟨aj (aw (fun q=>h0 q.1)).symm,Below.refl _ _⟩
 have g0:(D.exits.length:Int)<=1500:=by omega
 go_enter Tryz.func117,Tryz.ntmps117
 go_wp2_with fail
 refine (allExit_any (.pointer (some ⟨K,0,none⟩)) (fun _ x=>eR fs D x) ea D.exits ec w lim.fast.2.1 h.exits (fun i hi _ _ _ _ w' q p0 p1=>exitOk_any i D.exits[i] (lim.fast.2.2 _ (n_l hi)) p0 p1 (h.mono q) lim)).mono ?_;rintro e w1 ⟨rfl,hb⟩;go_wp2;go_ret
 exact⟨bx (by rw[cT];exact⟨fun q=>⟨h0,q⟩,fun q=>q.2⟩),hb⟩
end
theorem iFastOk_any(a1 a2 oa ea:Option Addr)(c1 c2 oc ec:Nat)(ts:List ByteArray)(fs:List Fn)(D:aH)(w:World)(hs:b9 ts fs)(hd:bI D)(hm:aT w 0 a1 ts)(hm2:FnsAt w 0 a2 fs)(hf:ev w 0 oa ea D)(hsh:ShAt w)(hDB:DB w) :
  Calls Tryz.prog 66 #[.agg #[.slice a1 ts.length c1,.slice a2 fs.length c2],.agg (bX oa ea oc ec D)] w fun e w'=>e=.returned (.bool (pB (FastP ts fs D)))/\Below w.heap.size w w':=by
 unfold bX;have hbA:Below w.heap.size w ((w.alloc (.cells #[.slice a1 ts.length c1,.slice a2 fs.length c2] 42)).alloc (.cells #[.int .i64 D.fn,.int .i64 D.entry,.int .i64 D.vals,.int .i64 D.nums,.slice oa D.ops.length oc,.slice ea D.exits.length ec] 101)):=(gM.alloc nL _).alloc (by simp) _;have hM0:=al (ah w #[.slice a1 ts.length c1,.slice a2 fs.length c2] 42) (.cells #[.int .i64 D.fn,.int .i64 D.entry,.int .i64 D.vals,.int .i64 D.nums,.slice oa D.ops.length oc,.slice ea D.exits.length ec] 101);have hF0:=ax (w.alloc (.cells #[.slice a1 ts.length c1,.slice a2 fs.length c2] 42)) #[.int .i64 D.fn,.int .i64 D.entry,.int .i64 D.vals,.int .i64 D.nums,.slice oa D.ops.length oc,.slice ea D.exits.length ec] 101 (w.heap.size+1) (by simp);go_enter Tryz.func66,Tryz.ntmps66
 go_wp2_with fail
 refine (iAllS_any a1 a2 c1 c2 ts fs _ hs (hm.mono hbA) (hm2.mono hbA)).mono ?_;rintro e w1 ⟨⟨v,c,f,a,⟨vx,vn,vk,rfl⟩,rfl,hV,hGd⟩,hb⟩;have hM1:=ab hM0 hb;have hF1:=ab hF0 hb;have hB1:=hbA.trans (hb.mono hbA.size);have HG:Hid (c=0↔Good ts fs):=hV.good;have HGD:Hid (c=0->∃G,Value.slice vx vn vk=.slice (some ⟨G,0,none⟩) fs.length fs.length/\Hs w1 ((w.alloc (.cells #[.slice a1 ts.length c1,.slice a2 fs.length c2] 42)).alloc (.cells #[.int .i64 D.fn,.int .i64 D.entry,.int .i64 D.vals,.int .i64 D.nums,.slice oa D.ops.length oc,.slice ea D.exits.length ec] 101)).heap.size G fs.length fs):=hGd;have HMOD:Hid (Good ts fs->modB ts fs=true):=good_mod;clear hM0 hF0 hb hbA hV hGd;obtain⟨wT,hwT⟩:∃wT,wT=(w1.alloc (.cells #[.int .i64 c,.int .i64 f,.int .i64 a] 95)).alloc (.cells #[.slice a1 ts.length c1,.slice a2 fs.length c2,.slice vx vn vk,.int .i64 D.fn,.int .i64 D.entry,.int .i64 D.vals,.int .i64 D.nums,.slice oa D.ops.length oc,.slice ea D.exits.length ec,.slice a2 fs.length c2,.slice oa D.ops.length oc,.slice ea D.exits.length ec] 201):=⟨_,rfl⟩;have hbT:Below w1.heap.size w1 wT:=by rw[hwT];exact (gM.alloc nL _).alloc (by simp) _
 have hT:wT.heap[w1.heap.size]?=some (.cells #[.int .i64 c,.int .i64 f,.int .i64 a] 95 (0,0)):=by rw[hwT];exact al (ah _ _ _) _
 have hL:wT.heap[w1.heap.size+1]?=some (.cells #[.slice a1 ts.length c1,.slice a2 fs.length c2,.slice vx vn vk,.int .i64 D.fn,.int .i64 D.entry,.int .i64 D.vals,.int .i64 D.nums,.slice oa D.ops.length oc,.slice ea D.exits.length ec,.slice a2 fs.length c2,.slice oa D.ops.length oc,.slice ea D.exits.length ec] 201 (0,0)):=by rw[hwT];exact ax _ _ _ _ (by simp)
 have hBT:=hB1.trans (hbT.mono hB1.size);have m1:=aa hM1;have f1:=aa hF1;have m2:=aa (al hM1 (.cells #[.int .i64 c,.int .i64 f,.int .i64 a] 95));have f2:=aa (al hF1 (.cells #[.int .i64 c,.int .i64 f,.int .i64 a] 95));by_cases hc0:c=0
 case neg=>
  have HN:Hid (¬Good ts fs):=fun q=>hc0 (HG.out.2 q)
  have gc:(c == 0)=false:=by simpa using hc0
  have t0:=aa hT;clear hc0 hL HG HGD;go_upto_region 3 with fail
  rw[<-hwT];clear hwT m1 f1 m2 f2;go_wp2;go_ret
  exact⟨aj (aw (fun q=>HN.out q.1)).symm,hBT⟩
 subst hc0;obtain⟨G,hvG,hHs⟩:=HGD.out rfl
 cases hvG;have hG:Good ts fs:=HG.out.1 rfl;have hmod:=HMOD.out hG;have lim:Lim fs D:=⟨hs.funcs,hs.code,hd,fun k hk=>cy hmod hk⟩;have hLk:Look fs D a1 a2 oa ea ts.length c1 c2 oc ec G _ (w1.heap.size+1) wT:=⟨hL,hm2.mono hBT,hHs.mono hbT,hf.ops.mono hBT,hf.exits.mono hBT,hsh.mono hBT⟩;have HLK:Hid (Look fs D a1 a2 oa ea ts.length c1 c2 oc ec G _ (w1.heap.size+1) wT):=hLk;have HLIM:Hid (Lim fs D):=lim;have HDB:Hid (DB wT):=hDB.mono hBT;have HGG:Hid (Good ts fs):=hG;have HB:Hid (Below w.heap.size w wT):=hBT;have t0:=aa hT;clear hLk lim hG hHs hL HG HGD hT hBT hmod hbT hB1 hM1 hF1;go_upto_region 3 with fail
 rw[<-hwT];clear hwT m1 f1 m2 f2;go_wp2_with fail
 refine (entryOk_any HLK.out HDB.out HGG.out).mono ?_;rintro e w2 ⟨rfl,hb2⟩;have HLK2:=HLK.out.mono hb2;have HB2:Hid (Below w.heap.size w w2):=HB.out.trans (hb2.mono HB.out.size);have HLK2':Hid (Look fs D a1 a2 oa ea ts.length c1 c2 oc ec G _ (w1.heap.size+1) w2):=HLK2;clear HLK2 hb2 t0;by_cases h0:cq fs D
 case neg=>
  rw[aw h0];have HN:Hid (¬cq fs D):=h0;clear h0;go_wp2;go_ret
  exact⟨aj (aw (fun q=>HN.out q.2.1)).symm,HB2.out⟩
 rw[ay h0];have H0:Hid (cq fs D):=h0;clear h0;go_wp2_with fail
 refine (opsOk_any HLK2'.out HLIM.out).mono ?_;rintro e w3 ⟨rfl,hb3⟩;have HLK3:Hid (Look fs D a1 a2 oa ea ts.length c1 c2 oc ec G _ (w1.heap.size+1) w3):=HLK2'.out.mono hb3;have HB3:Hid (Below w.heap.size w w3):=HB2.out.trans (hb3.mono HB2.out.size);clear hb3;by_cases h1:OpsP fs D
 case neg=>
  rw[aw h1];have HN:Hid (¬OpsP fs D):=h1;clear h1;go_wp2;go_ret
  exact⟨aj (aw (fun q=>HN.out q.2.2.1)).symm,HB3.out⟩
 rw[ay h1];have H1:Hid (OpsP fs D):=h1;clear h1;go_wp2_with fail
 refine (exitsOk_any HLK3.out HLIM.out).mono ?_;rintro e w4 ⟨rfl,hb4⟩;have HB4:Hid (Below w.heap.size w w4):=HB3.out.trans (hb4.mono HB3.out.size);go_wp2;go_ret
 exact⟨bx (by rw[cT];exact⟨fun q=>⟨HGG.out,H0.out,H1.out,q⟩,fun q=>q.2.2.2⟩),HB4.out⟩
def dW (ts:List ByteArray)(fs:List Fn)(cs:List aH):Prop:=cs.length<=8/\(cs.map fun x=>((x.fn,x.entry):Int×Int)).Nodup/\∀x∈cs,FastP ts fs x
structure eF (w:World)(M:Nat)(a1 a2:Option Addr)(ts:List ByteArray)(fs:List Fn)(c1 c2:Nat):Prop where
 box:w.heap[M]?=some (.cells #[.slice a1 ts.length c1,.slice a2 fs.length c2] 42 (0,0))
 strs:aT w 0 a1 ts
 fns:FnsAt w 0 a2 fs
 sh:ShAt w
 db:DB w
theorem eF.mono{w w':World}{M:Nat}{a1 a2:Option Addr}{ts:List ByteArray}{fs:List Fn}{c1 c2:Nat}(h:eF w M a1 a2 ts fs c1 c2)(hb:Below w.heap.size w w'):eF w' M a1 a2 ts fs c1 c2:=
 ⟨ab h.box hb,h.strs.mono hb,h.fns.mono hb,h.sh.mono hb,h.db.mono hb⟩
theorem badCode_any(M:Nat)(a1 a2 a0 a3:Option Addr)(c1 c2 c0 c3:Nat)(ts:List ByteArray)(fs:List Fn)(x:aH)(w:World)(hs:b9 ts fs)(hx:bI x)(hM:eF w M a1 a2 ts fs c1 c2)(hf:ev w 0 a0 a3 x) :
  Calls Tryz.prog 65 #[.agg (bX a0 a3 c0 c3 x),.pointer (some ⟨M,0,none⟩)] w fun e w'=>e=.returned (.bool (!(pB (FastP ts fs x))))/\Below w.heap.size w w':=by
 obtain⟨W,hW⟩:∃W,W=w.alloc (.cells #[.int .i64 x.fn,.int .i64 x.entry,.int .i64 x.vals,.int .i64 x.nums,.slice a0 x.ops.length c0,.slice a3 x.exits.length c3] 101):=⟨_,rfl⟩;have hbW:Below w.heap.size w W:=by rw[hW];exact gM.alloc nL _
 have hX:W.heap[w.heap.size]?=some (.cells #[.int .i64 x.fn,.int .i64 x.entry,.int .i64 x.vals,.int .i64 x.nums,.slice a0 x.ops.length c0,.slice a3 x.exits.length c3] 101 (0,0)):=by rw[hW];exact ah _ _ _
 have hMW:=hM.mono hbW;have hc:=iFastOk_any a1 a2 a0 a3 c1 c2 c0 c3 ts fs x W hs hx hMW.strs hMW.fns (hf.mono hbW) hMW.sh hMW.db;unfold bX at hc ⊢;have HC:=hidz hc;have HB:=hidz hbW;have m0:=aa hMW.box;have x0:=aa hX;clear hc hbW hX hM hMW hf hx hs;go_enter Tryz.func65,Tryz.ntmps65
 go_upto_region 1 with fail
 rw[<-hW];clear hW;go_wp2_with fail
 refine HC.out.mono ?_;rintro e w1 ⟨rfl,hb1⟩;have hB:=HB.out.trans (hb1.mono HB.out.size);clear hb1 HC m0 x0;by_cases hp:FastP ts fs x
 ·have HV:Hid ((!(pB (FastP ts fs x)))=false):=by show _=_;rw[ay hp];rfl
  rw[ay hp];clear hp;go_wp2;go_ret
  exact⟨aj (by rw[HV.out]),hB⟩
 ·have HV:Hid ((!(pB (FastP ts fs x)))=true):=by show _=_;rw[aw hp];rfl
  rw[aw hp];clear hp;go_wp2;go_ret
  exact⟨aj (by rw[HV.out]),hB⟩
theorem badIndex_any(M:Nat)(a1 a2 a:Option Addr)(c1 c2 cap:Nat)(ts:List ByteArray)(fs:List Fn)(xs:List aH)(w:World)(hs:b9 ts fs)(hn:xs.length<=1048576)(hx:∀x∈xs,bI x)(hM:eF w M a1 a2 ts fs c1 c2)(hf:cH w 0 a xs) :
  Calls Tryz.prog 114 #[.slice a xs.length cap,.func (.func 65) #[] #[.pointer (some ⟨M,0,none⟩)]] w fun e w'=>∃r:Int,e=.returned (.int .i64 r)/\(0<=r↔¬∀x∈xs,FastP ts fs x)/\Below w.heap.size w w':=by
 have HS:=hidz hs;have HX:=hidz hx;have HM:=hidz hM;have HF:=hidz hf;clear hs hx hM hf;go_enter Tryz.func114,Tryz.ntmps114
 go_wp2_with fail
 go_loopw [8] (fun i wr=>∃(k:Nat),k<=xs.length/\i=.int .i64 k/\Hid (∀x∈xs.take k,FastP ts fs x)/\Below w.heap.size w wr) (fun i _=>xs.length-(intOf i).toNat)
 case atStart=>exact⟨0,by omega,rfl,(by intro f hf;simp at hf),Below.refl _ _⟩
 case round=>
  obtain⟨k,hk,rfl,hall,hb⟩:=hrel;by_cases hlt:k<xs.length
  ·obtain⟨b,off,a0,c0,a3,c3,rfl,-,h0,h1,h2,h3,h4,h5,p0,p3⟩:=(HF.out.mono hb) k hlt;have hcn:=badCode_any M a1 a2 a0 a3 c1 c2 c0 c3 ts fs xs[k] wr HS.out (HX.out _ (n_l hlt)) (HM.out.mono hb) ⟨p0,p3⟩;unfold bX at hcn;have HN:=hidz hcn;have HIN:Hid (xs[k]∈xs):=n_l hlt;have HT:Hid (FastP ts fs xs[k]->∀x∈xs.take (k+1),FastP ts fs x):=fun h=>aP (p:=FastP ts fs) hlt hall.out h
   clear hcn p0 p3;go_wp2_with fail
   refine HN.out.mono ?_;rintro e w2 ⟨rfl,hb'⟩;have hB:=hb.trans (hb'.mono hb.size);clear h0 h1 h2 h3 h4 h5 hb' HN;by_cases hp:FastP ts fs xs[k]
   ·rw[ay hp];have HK:=hidz (HT.out hp);clear hp HT;go_wp2;go_roundw
    case rel=>exact⟨k+1,by omega,by go_num,HK.out,hB⟩
    case measure=>simp[intOf];omega
   ·rw[aw hp];have HK:=hidz hp;clear hp HT;go_wp2;go_ret
    exact⟨k,rfl,⟨fun _ h=>HK.out (h _ HIN.out),fun _=>by omega⟩,hB⟩
  ·have HE:Hid (∀x∈xs,FastP ts fs x):=by
    have:=hall.out;rwa [List.take_of_length_le (by omega)] at this
   go_wp2;go_ret
   exact⟨-1,rfl,⟨fun h=>absurd h (by decide),fun h=>absurd HE.out h⟩,hb⟩
theorem badCodes_any(M:Nat)(a1 a2 a:Option Addr)(c1 c2 cap:Nat)(ts:List ByteArray)(fs:List Fn)(xs:List aH)(w:World)(hs:b9 ts fs)(hn:xs.length<=1048576)(hx:∀x∈xs,bI x)(hM:eF w M a1 a2 ts fs c1 c2)(hf:cH w 0 a xs) :
  Calls Tryz.prog 64 #[.slice a xs.length cap,.func (.func 65) #[] #[.pointer (some ⟨M,0,none⟩)]] w fun e w'=>e=.returned (.bool (pB (¬∀x∈xs,FastP ts fs x)))/\Below w.heap.size w w':=by
 have HC:=hidz (badIndex_any M a1 a2 a c1 c2 cap ts fs xs w hs hn hx hM hf);clear hs hx hM hf;go_enter Tryz.func64,Tryz.ntmps64
 go_wp2_with fail
 refine HC.out.mono ?_;rintro e w1 ⟨r,rfl,hr,hb1⟩;by_cases h0:0<=r
 ·have HR:Hid (pB (¬∀x∈xs,FastP ts fs x)=true):=ay (hr.1 h0);clear hr HC;go_wp2;go_ret
  exact⟨aj (by rw[HR.out]),hb1⟩
 ·have HR:Hid (pB (¬∀x∈xs,FastP ts fs x)=false):=aw (fun h=>h0 (hr.2 h));clear hr HC;go_wp2;go_ret
  exact⟨aj (by rw[HR.out];exact decide_eq_false (by omega)),hb1⟩
theorem codesOk_any(a1 a2 a:Option Addr)(c1 c2 cap:Nat)(ts:List ByteArray)(fs:List Fn)(xs:List aH)(w:World)(hs:b9 ts fs)(hn:xs.length<=1048576)(hx:∀x∈xs,bI x)(hst:aT w 0 a1 ts)(hfn:FnsAt w 0 a2 fs)(hsh:ShAt w)(hdb:DB w)(hf:cH w 0 a xs) :
  Calls Tryz.prog 28 #[.agg #[.slice a1 ts.length c1,.slice a2 fs.length c2],.slice a xs.length cap] w fun e w'=>e=.returned (.bool (pB (dW ts fs xs)))/\Below w.heap.size w w':=by
 obtain⟨r,hr⟩:∃r,r=pB (dW ts fs xs):=⟨_,rfl⟩;rw[<-hr];have HR:Hid (r=pB (dW ts fs xs)):=hr;clear hr;obtain⟨W,hW⟩:∃W,W=w.alloc (.cells #[.slice a1 ts.length c1,.slice a2 fs.length c2] 42):=⟨_,rfl⟩;have hbW:Below w.heap.size w W:=by rw[hW];exact gM.alloc nL _
 have hMB:eF W w.heap.size a1 a2 ts fs c1 c2:=⟨by rw[hW];exact ah _ _ _,hst.mono hbW,hfn.mono hbW,hsh.mono hbW,hdb.mono hbW⟩;have HB:=hidz hbW;by_cases h8:xs.length<=8
 case neg=>
  have HV:Hid (r=false):=by show _=_;rw[HR.out];exact aw (fun h=>h8 h.1)
  have h8':¬(xs.length:Int)<=8:=by omega
  clear h8 hMB hbW hst hfn hsh hdb hf hx hs;go_enter Tryz.func28,Tryz.ntmps28
  go_upto_region 1 with fail
  rw[<-hW];clear hW;go_wp2;go_ret
  exact⟨aj (by rw[HV.out]),HB.out⟩
 have h8':(xs.length:Int)<=8:=by omega
 have HO:=hidz (onceC_any a xs cap W hn (hf.mono hbW));have HF:=hidz (hf.mono hbW);have HX:=hidz hx;have HS:=hidz hs;have HMB:=hidz hMB;clear hMB hbW hst hfn hsh hdb hf hx hs;by_cases hnd:(xs.map fun x=>((x.fn,x.entry):Int×Int)).Nodup
 case neg=>
  have HV:Hid (r=false):=by show _=_;rw[HR.out];exact aw (fun h=>hnd h.2.1)
  rw[aw hnd] at HO;clear hnd h8;go_enter Tryz.func28,Tryz.ntmps28
  go_upto_region 1 with fail
  rw[<-hW];clear hW;go_wp2_with fail
  refine HO.out.mono ?_;rintro e w1 ⟨rfl,hb1⟩;have hB:=HB.out.trans (hb1.mono HB.out.size);clear hb1 HO;go_wp2;go_ret
  exact⟨aj (by rw[HV.out]),hB⟩
 have HND:=hidz hnd;have HH8:=hidz h8;rw[ay hnd] at HO;clear hnd h8;go_enter Tryz.func28,Tryz.ntmps28
 go_upto_region 1 with fail
 rw[<-hW];clear hW;go_wp2_with fail
 refine HO.out.mono ?_;rintro e w1 ⟨rfl,hb1⟩;have hB:=HB.out.trans (hb1.mono HB.out.size);have HC:=hidz (badCodes_any w.heap.size a1 a2 a c1 c2 cap ts fs xs w1 HS.out hn HX.out (HMB.out.mono hb1) (HF.out.mono hb1));clear hb1 HO;go_wp2_with fail
 refine HC.out.mono ?_;rintro e w2 ⟨rfl,hb2⟩;have hB2:=hB.trans (hb2.mono hB.size);clear hb2 HC hB;by_cases hall:∀x∈xs,FastP ts fs x
 ·rw[aw (fun h:¬∀x∈xs,FastP ts fs x=>h hall)];have HV:Hid (r=true):=by show _=_;rw[HR.out];exact ay ⟨HH8.out,HND.out,hall⟩
  clear hall;go_wp2;go_ret
  exact⟨aj (by rw[HV.out]),hB2⟩
 ·rw[ay hall];have HV:Hid (r=false):=by show _=_;rw[HR.out];exact aw (fun h=>hall h.2.2)
  clear hall;go_wp2;go_ret
  exact⟨aj (by rw[HV.out]),hB2⟩
def eW (ts:List ByteArray)(fs:List Fn)(D:TrD):Prop:=fR ts fs D.vm/\ek fs D.sites/\dW ts fs D.codes/\ex fs D.fails D.guards/\0<=D.entered/\D.entered<=1000000000
theorem iTierOk_any(a1 a2 fa ha oa sa ca la:Option Addr)(c1 c2 fc hc oc sc cc lc:Nat)(ts:List ByteArray)(fs:List Fn)(D:TrD)(w:World)(hs:b9 ts fs)(hd:cC D)(hg:inR D.guards)(hst:aT w 0 a1 ts)(hfn:FnsAt w 0 a2 fs)(ht:TrAt w 0 fa ha oa sa ca la D)(hsh:ShAt w)(hdb:DB w) :
  Calls Tryz.prog 9 #[.agg #[.slice a1 ts.length c1,.slice a2 fs.length c2],.agg (bD fa ha oa fc hc oc sa sc ca cc la lc D)] w fun e w'=>e=.returned (.bool (pB (eW ts fs D)))/\Below w.heap.size w w':=by
 obtain⟨r,hr⟩:∃r,r=pB (eW ts fs D):=⟨_,rfl⟩;rw[<-hr];have HR:Hid (r=pB (eW ts fs D)):=hr;clear hr;unfold bD;obtain⟨W,hW⟩:∃W,W=(w.alloc (.cells #[.slice a1 ts.length c1,.slice a2 fs.length c2] 42)).alloc (.cells #[.slice fa D.vm.frames.length fc,.slice ha D.vm.heap.length hc,.int .i64 D.vm.made,.slice oa D.vm.out.length oc,.int .i64 D.vm.status,.int .i64 D.vm.trap,.int .i64 D.vm.value.k,.int .i64 D.vm.value.n,.string D.vm.value.s,.int .i64 D.vm.steps,.slice sa D.sites.length sc,.slice ca D.codes.length cc,.slice la D.fails.length lc,.int .i64 D.guards,.int .i64 D.entered] 53):=⟨_,rfl⟩;have hbW:Below w.heap.size w W:=by rw[hW];exact (gM.alloc nL _).alloc (by simp) _
 have hX:W.heap[w.heap.size]?=some (.cells #[.slice a1 ts.length c1,.slice a2 fs.length c2] 42 (0,0)):=by rw[hW];exact al (ah _ _ _) _
 have hY:W.heap[w.heap.size+1]?=some (.cells #[.slice fa D.vm.frames.length fc,.slice ha D.vm.heap.length hc,.int .i64 D.vm.made,.slice oa D.vm.out.length oc,.int .i64 D.vm.status,.int .i64 D.vm.trap,.int .i64 D.vm.value.k,.int .i64 D.vm.value.n,.string D.vm.value.s,.int .i64 D.vm.steps,.slice sa D.sites.length sc,.slice ca D.codes.length cc,.slice la D.fails.length lc,.int .i64 D.guards,.int .i64 D.entered] 53 (0,0)):=by rw[hW];exact ax _ _ _ _ (by simp)
 have hv:=iVmOk_any a1 a2 c1 c2 ts fs fa ha oa fc hc oc D.vm W hs (hst.mono hbW) (hfn.mono hbW) hd.vm (ht.vm.mono hbW);unfold aQ at hv;have HV:=hidz hv;have HP:Hid (∀w',Below w.heap.size w w'->Calls Tryz.prog 27 #[.agg #[.slice a1 ts.length c1,.slice a2 fs.length c2],.slice sa D.sites.length sc] w' fun e w''=>e=.returned (.bool (pB (Good ts fs/\ek fs D.sites)))/\Below w'.heap.size w' w''):=fun w' h=>iProfileOk_any a1 a2 c1 c2 ts fs sa sc D.sites w' hs (hst.mono h) (hfn.mono h) (ht.sites.mono h)
 have HC:Hid (∀w',Below w.heap.size w w'->Calls Tryz.prog 28 #[.agg #[.slice a1 ts.length c1,.slice a2 fs.length c2],.slice ca D.codes.length cc] w' fun e w''=>e=.returned (.bool (pB (dW ts fs D.codes)))/\Below w'.heap.size w' w''):=fun w' h=>codesOk_any a1 a2 ca c1 c2 cc ts fs D.codes w' hs hd.codes.1 hd.codes.2 (hst.mono h) (hfn.mono h) (hsh.mono h) (hdb.mono h) (ht.codes.mono h)
 have HF:Hid (∀w',Below w.heap.size w w'->Calls Tryz.prog 29 #[.agg #[.slice a1 ts.length c1,.slice a2 fs.length c2],.slice la D.fails.length lc,.int .i64 D.guards] w' fun e w''=>e=.returned (.bool (pB (ex fs D.fails D.guards)))/\Below w'.heap.size w' w''):=fun w' h=>failsOk_any a1 a2 ts.length c1 c2 fs la D.fails lc D.guards w' hs.code (hfn.mono h) hd.fails (ht.fails.mono h) hg
 have HX:=hidz hX;have HY:=hidz hY;have HB:=hidz hbW;have x0:=aa hX;have y0:=aa hY;clear hbW hX hY hv hs hd hg hst hfn ht hsh hdb;go_enter Tryz.func9,Tryz.ntmps9
 go_upto_region 1 with fail
 rw[<-hW];clear hW;go_wp2_with fail
 refine HV.out.mono ?_;rintro e w1 ⟨hsay,hb1⟩;obtain rfl:=hsay.eq;clear hsay HV x0 y0;have HX1:=hidz (ab HX.out hb1);have HY1:=hidz (ab HY.out hb1);have HB1:=hidz (HB.out.trans (hb1.mono HB.out.size));clear HX HY HB hb1;have HX:=HX1;have HY:=HY1;have HB:=HB1;clear HX1 HY1 HB1;have x0:=aa HX.out;have y0:=aa HY.out;by_cases h1:fR ts fs D.vm
 case neg=>
  rw[aw h1];have HQ:Hid (r=false):=by show _=_;rw[HR.out];exact aw (fun h=>h1 h.1)
  clear h1;go_wp2;go_ret
  exact⟨aj (by rw[HQ.out]),HB.out⟩
 have H1:=hidz h1;rw[ay h1];clear h1;go_wp2_with fail
 refine (HP.out _ HB.out).mono ?_;rintro e w2 ⟨rfl,hb2⟩;clear x0 y0;have HX2:=hidz (ab HX.out hb2);have HY2:=hidz (ab HY.out hb2);have HB2:=hidz (HB.out.trans (hb2.mono HB.out.size));clear HX HY HB hb2;have HX:=HX2;have HY:=HY2;have HB:=HB2;clear HX2 HY2 HB2;have x0:=aa HX.out;have y0:=aa HY.out;by_cases h2:Good ts fs/\ek fs D.sites
 case neg=>
  rw[aw h2];have HQ:Hid (r=false):=by show _=_;rw[HR.out];exact aw (fun h=>h2 ⟨H1.out.1,h.2.1⟩)
  clear h2;go_wp2;go_ret
  exact⟨aj (by rw[HQ.out]),HB.out⟩
 have H2:=hidz h2;rw[ay h2];clear h2;go_wp2_with fail
 refine (HC.out _ HB.out).mono ?_;rintro e w3 ⟨rfl,hb3⟩;clear x0 y0;have HX3:=hidz (ab HX.out hb3);have HY3:=hidz (ab HY.out hb3);have HB3:=hidz (HB.out.trans (hb3.mono HB.out.size));clear HX HY HB hb3;have HX:=HX3;have HY:=HY3;have HB:=HB3;clear HX3 HY3 HB3;have x0:=aa HX.out;have y0:=aa HY.out;by_cases h3:dW ts fs D.codes
 case neg=>
  rw[aw h3];have HQ:Hid (r=false):=by show _=_;rw[HR.out];exact aw (fun h=>h3 h.2.2.1)
  clear h3;go_wp2;go_ret
  exact⟨aj (by rw[HQ.out]),HB.out⟩
 have H3:=hidz h3;rw[ay h3];clear h3;go_wp2_with fail
 refine (HF.out _ HB.out).mono ?_;rintro e w4 ⟨rfl,hb4⟩;clear x0 y0;have HX4:=hidz (ab HX.out hb4);have HY4:=hidz (ab HY.out hb4);have HB4:=hidz (HB.out.trans (hb4.mono HB.out.size));clear HX HY HB hb4;have HX:=HX4;have HY:=HY4;have HB:=HB4;clear HX4 HY4 HB4;have x0:=aa HX.out;have y0:=aa HY.out;by_cases h4:ex fs D.fails D.guards
 case neg=>
  rw[aw h4];have HQ:Hid (r=false):=by show _=_;rw[HR.out];exact aw (fun h=>h4 h.2.2.2.1)
  clear h4;go_wp2;go_ret
  exact⟨aj (by rw[HQ.out]),HB.out⟩
 have H4:=hidz h4;rw[ay h4];clear h4;by_cases h5:0<=D.entered/\D.entered<=1000000000
 case neg=>
  have HQ:Hid (r=false):=by show _=_;rw[HR.out];exact aw (fun h=>h5 h.2.2.2.2)
  have hbn:=fu (n:=D.entered) (lo:=0) (hi:=1000000000) h5;clear h5;go_wp2_with fail
  refine (hbn _).mono ?_;rintro e w9 ⟨rfl,hw9⟩;rw[hw9];clear hw9 w9;go_wp2;go_ret
  exact⟨aj (by rw[HQ.out]),HB.out⟩
 have HQ:Hid (r=true):=by show _=_;rw[HR.out];exact ay ⟨H1.out,H2.out.2,H3.out,H4.out,h5⟩
 have hbn:=fj (n:=D.entered) (lo:=0) (hi:=1000000000) h5;clear h5;go_wp2_with fail
 refine (hbn _).mono ?_;rintro e w9 ⟨rfl,hw9⟩;rw[hw9];clear hw9 w9;go_wp2;go_ret
 exact⟨aj (by rw[HQ.out]),HB.out⟩
end Go.Proofs.YtdlkbbgmjilccaaGreatDoor
