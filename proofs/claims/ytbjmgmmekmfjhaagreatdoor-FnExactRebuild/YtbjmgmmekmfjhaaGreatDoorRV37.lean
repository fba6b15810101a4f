/- RV37 -/
import Derived.Test.YtbjmgmmekmfjhaaGreatDoorRV32
import Derived.Test.YtbjmgmmekmfjhaaGreatDoorRV35
import Derived.Test.YtbjmgmmekmfjhaaGreatDoorRV36
import Derived.Test.YtbjmgmmekmfjhaaGreatDoorRV31
import Derived.Laws.EntriesVeiled
set_option maxHeartbeats 32000000
set_option maxRecDepth 100000
namespace Go.Proofs.YtbjmgmmekmfjhaaGreatDoor
open Go.RowKit
section
variable {ts:List ByteArray} {fs:List Fn} {D:aR} {a1 a2 oa ea:Option Addr} {nt c1 c2 oc ec G base K:Nat} {w:World}
theorem opsOk_any(h:Look fs D a1 a2 oa ea nt c1 c2 oc ec G base K w)(lim:Lim fs D) :
  Calls Tryz.prog 103 #[.pointer (some ⟨K,0,none⟩)] w fun e w'=>e=.returned (.bool (pB (OpsP fs D)))/\Below w.heap.size w w':=by
 have HS0:Hid (∀w',Below w.heap.size w w'->w'.cell? ⟨K,10,none⟩=some (.slice oa D.ops.length oc)/\w'.cell? ⟨K,3,none⟩=some (.int .i64 D.fn)):=fun w' q=>⟨(h.mono q).cells 10,(h.mono q).cells 3⟩
 have HC0:Hid (∀w',Below w.heap.size w w'->Calls Tryz.prog 127 #[.int .i64 D.ops.length,.int .i64 1,.int .i64 1500] w' fun e w''=>e=.returned (.bool (pB (Btw (D.ops.length:Int) 1 1500)))/\Below w'.heap.size w' w''):=fun w' _=>(bm _ _ _ _).mono fun _ _ q=>⟨q.1,by rw[q.2];exact Below.refl _ _⟩
 have HC2:Hid (∀w',Below w.heap.size w w'->Calls Tryz.prog 166 #[.slice oa D.ops.length oc,.func (.func 167) #[.pointer (some ⟨K,0,none⟩)] #[]] w' fun e w''=>e=.returned (.bool (pB (∀i (h:i<D.ops.length),FopP fs D i D.ops[i])))/\Below w'.heap.size w' w''):=fun w' q=>allFOp_any (.pointer (some ⟨K,0,none⟩)) (fun i x=>FopP fs D i x) oa D.ops oc w' lim.fast.1.1 ((h.mono q).ops) (fun i hi w'' q'=>opOk_any i D.ops[i] (lim.fast.1.2 _ (g_m hi)) ((h.mono q).mono q') lim)
 by_cases h0:Btw (D.ops.length:Int) 1 1500
 case neg=>
  rw[aJ h0] at HC0;have HN:Hid (¬(Btw (D.ops.length:Int) 1 1500)):=h0;clear h0 h lim;go_enter Tryz.func103,Tryz.ntmps103
  go_upto_region 1 with fail
  refine aB (by kernel_rfl) (by kernel_rfl) ?_
  iterate 5
   refine am (v:=?_) (by kernel_rfl) ?_ ?_;rotate_left
   ·intro w' hC;obtain⟨j0,j1⟩:=HS0.out w' hC;go_simp;try with_reducible rfl
   try simp only[Act.put,sAr,sZe,sSu]
  refine am (v:=.bool false) (by kernel_rfl) ?_ ?_
  ·intro w' hC;go_simp;refine (HC0.out _ hC).mono ?_;rintro e w'' ⟨rfl,hb2⟩;exact⟨rfl,hC.trans (hb2.mono hC.size)⟩
  try simp only[Act.put,sAr,sZe,sSu]
  refine am (v:=?_) (by kernel_rfl) ?_ ?_;rotate_left
  ·intro w' hC;obtain⟨j0,j1⟩:=HS0.out w' hC;go_simp;try with_reducible rfl
  try simp only[Act.put,sAr,sZe,sSu]
  iterate 14 go_big_quiet_skip
  iterate 2
   refine am (v:=?_) (by kernel_rfl) ?_ ?_;rotate_left
   ·intro w' hC;obtain⟨j0,j1⟩:=HS0.out w' hC;go_simp;try with_reducible rfl
   try simp only[Act.put,sAr,sZe,sSu]
  iterate 7 go_big_quiet_skip
  iterate 2
   refine am (v:=?_) (by kernel_rfl) ?_ ?_;rotate_left
   ·intro w' hC;obtain⟨j0,j1⟩:=HS0.out w' hC;go_simp;try with_reducible rfl
   try simp only[Act.put,sAr,sZe,sSu]
  refine wpQuiet_nil ?_;intro w2 q2;go_wp2;go_ret
  exact⟨ax (aJ (fun q=>HN.out (by have:=q.1;exact⟨by omega,by omega⟩))).symm,q2⟩
 rw[aL h0] at HC0;have H0:Hid (Btw (D.ops.length:Int) 1 1500):=h0;obtain⟨lx,hlx⟩:∃lx,lx=D.ops.length-1:=⟨_,rfl⟩;have hl1:lx<D.ops.length:=by have:=h0.1;omega
 have hw1:IntKind.i64.wrap ((D.ops.length:Int)-1)=(lx:Int):=by rw[IntKind.wrap_i64];have:=h0.1;have:=h0.2;omega
 have hl2:(lx:Int)<(D.ops.length:Int):=by omega
 have hl3:(0:Int)<=(lx:Int):=by omega
 have HLX:Hid (lx=D.ops.length-1):=hlx;obtain⟨b,off,rfl,-,d0,-⟩:=h.ops lx hl1;have HS:Hid (∀w',Below w.heap.size w w'->w'.cell? ⟨K,10,none⟩=some (.slice (some ⟨b,off,none⟩) D.ops.length oc)/\w'.cell? ⟨b,off+lx*10,none⟩=some (.int .i64 D.ops[lx].op)):=fun w' q=>⟨(HS0.out w' q).1,cell_later q d0⟩
 have HC1:Hid (∀w',Below w.heap.size w w'->Calls Tryz.prog 165 #[.int .i64 D.ops[lx].op] w' fun e w''=>e=.returned (.bool (pB (ft D.ops[lx].op)))/\Below w'.heap.size w' w''):=fun w' _=>(endOp_any _ _).mono fun _ _ q=>⟨q.1,by rw[q.2];exact Below.refl _ _⟩
 have HI:Hid (OpsP fs D↔ft D.ops[lx].op/\∀i (h:i<D.ops.length),FopP fs D i D.ops[i]):=by
  show _↔_
  have e:D.ops.length-1=lx:=HLX.out.symm;unfold OpsP;simp only[e]
  exact⟨fun q=>⟨by obtain⟨_,q⟩:=q.2.1;exact q,q.2.2⟩,fun q=>⟨⟨by have:=H0.out.1;omega,by have:=H0.out.2;omega⟩,⟨hl1,q.1⟩,q.2⟩⟩
 clear HS0 h0 hlx d0 h lim;by_cases h1:ft D.ops[lx].op
 case neg=>
  rw[aJ h1] at HC1;have HN:Hid (¬ft D.ops[lx].op):=h1;clear h1;go_enter Tryz.func103,Tryz.ntmps103
  go_upto_region 1 with fail
  refine aB (by kernel_rfl) (by kernel_rfl) ?_
  iterate 5
   refine am (v:=?_) (by kernel_rfl) ?_ ?_;rotate_left
   ·intro w' hC;obtain⟨j0,j1⟩:=HS.out w' hC;go_simp;try with_reducible rfl
   try simp only[Act.put,sAr,sZe,sSu]
  refine am (v:=.bool true) (by kernel_rfl) ?_ ?_
  ·intro w' hC;go_simp;refine (HC0.out _ hC).mono ?_;rintro e w'' ⟨rfl,hb2⟩;exact⟨rfl,hC.trans (hb2.mono hC.size)⟩
  try simp only[Act.put,sAr,sZe,sSu]
  iterate 14
   refine am (v:=?_) (by kernel_rfl) ?_ ?_;rotate_left
   ·intro w' hC;obtain⟨j0,j1⟩:=HS.out w' hC;go_simp;try with_reducible rfl
   try simp only[Act.put,sAr,sZe,sSu]
  refine am (v:=.bool false) (by kernel_rfl) ?_ ?_
  ·intro w' hC;go_simp;refine (HC1.out _ hC).mono ?_;rintro e w'' ⟨rfl,hb2⟩;exact⟨rfl,hC.trans (hb2.mono hC.size)⟩
  try simp only[Act.put,sAr,sZe,sSu]
  iterate 2
   refine am (v:=?_) (by kernel_rfl) ?_ ?_;rotate_left
   ·intro w' hC;obtain⟨j0,j1⟩:=HS.out w' hC;go_simp;try with_reducible rfl
   try simp only[Act.put,sAr,sZe,sSu]
  iterate 7 go_big_quiet_skip
  iterate 2
   refine am (v:=?_) (by kernel_rfl) ?_ ?_;rotate_left
   ·intro w' hC;obtain⟨j0,j1⟩:=HS.out w' hC;go_simp;try with_reducible rfl
   try simp only[Act.put,sAr,sZe,sSu]
  refine wpQuiet_nil ?_;intro w2 q2;go_wp2;go_ret
  exact⟨ax (aJ (fun q=>HN.out (HI.out.1 q).1)).symm,q2⟩
 rw[aL h1] at HC1;have H1:Hid (ft D.ops[lx].op):=h1;clear h1;go_enter Tryz.func103,Tryz.ntmps103
 go_upto_region 1 with fail
 refine aB (by kernel_rfl) (by kernel_rfl) ?_
 iterate 5
  refine am (v:=?_) (by kernel_rfl) ?_ ?_;rotate_left
  ·intro w' hC;obtain⟨j0,j1⟩:=HS.out w' hC;go_simp;try with_reducible rfl
  try simp only[Act.put,sAr,sZe,sSu]
 refine am (v:=.bool true) (by kernel_rfl) ?_ ?_
 ·intro w' hC;go_simp;refine (HC0.out _ hC).mono ?_;rintro e w'' ⟨rfl,hb2⟩;exact⟨rfl,hC.trans (hb2.mono hC.size)⟩
 try simp only[Act.put,sAr,sZe,sSu]
 iterate 14
  refine am (v:=?_) (by kernel_rfl) ?_ ?_;rotate_left
  ·intro w' hC;obtain⟨j0,j1⟩:=HS.out w' hC;go_simp;try with_reducible rfl
  try simp only[Act.put,sAr,sZe,sSu]
 refine am (v:=.bool true) (by kernel_rfl) ?_ ?_
 ·intro w' hC;go_simp;refine (HC1.out _ hC).mono ?_;rintro e w'' ⟨rfl,hb2⟩;exact⟨rfl,hC.trans (hb2.mono hC.size)⟩
 try simp only[Act.put,sAr,sZe,sSu]
 iterate 8
  refine am (v:=?_) (by kernel_rfl) ?_ ?_;rotate_left
  ·intro w' hC;obtain⟨j0,j1⟩:=HS.out w' hC;go_simp;try with_reducible rfl
  try simp only[Act.put,sAr,sZe,sSu]
 refine am (v:=.bool (pB (∀i (h:i<D.ops.length),FopP fs D i D.ops[i]))) (by kernel_rfl) ?_ ?_
 ·intro w' hC;go_simp;refine (HC2.out _ hC).mono ?_;rintro e w'' ⟨rfl,hb2⟩;exact⟨rfl,hC.trans (hb2.mono hC.size)⟩
 try simp only[Act.put,sAr,sZe,sSu]
 iterate 2
  refine am (v:=?_) (by kernel_rfl) ?_ ?_;rotate_left
  ·intro w' hC;obtain⟨j0,j1⟩:=HS.out w' hC;go_simp;try with_reducible rfl
  try simp only[Act.put,sAr,sZe,sSu]
 refine wpQuiet_nil ?_;intro w2 q2;go_wp2;go_ret
 exact⟨bP (by rw[dr,HI.out];exact⟨fun q=>⟨H1.out,q⟩,fun q=>q.2⟩),q2⟩
theorem exitsOk_any(h:Look fs D a1 a2 oa ea nt c1 c2 oc ec G base K w)(lim:Lim fs D) :
  Calls Tryz.prog 104 #[.pointer (some ⟨K,0,none⟩)] w fun e w'=>e=.returned (.bool (pB (fe fs D)))/\Below w.heap.size w w':=by
 have c:=h.cells;by_cases h0:D.exits.length<=1500
 case neg=>
  have g0:¬(D.exits.length:Int)<=1500:=by omega
  go_enter Tryz.func104,Tryz.ntmps104
  go_wp2;go_ret
  exact⟨ax (aJ (fun q=>h0 q.1)).symm,Below.refl _ _⟩
 have g0:(D.exits.length:Int)<=1500:=by omega
 go_enter Tryz.func104,Tryz.ntmps104
 go_wp2_with fail
 refine (allExit_any (.pointer (some ⟨K,0,none⟩)) (fun _ x=>fy fs D x) ea D.exits ec w lim.fast.2.1 h.exits (fun i hi _ _ _ _ w' q p0 p1=>exitOk_any i D.exits[i] (lim.fast.2.2 _ (g_m hi)) p0 p1 (h.mono q) lim)).mono ?_;rintro e w1 ⟨rfl,hb⟩;go_wp2;go_ret
 exact⟨bP (by rw[dr];exact⟨fun q=>⟨h0,q⟩,fun q=>q.2⟩),hb⟩
end
theorem iFastOk_any(a1 a2 oa ea:Option Addr)(c1 c2 oc ec:Nat)(ts:List ByteArray)(fs:List Fn)(D:aR)(w:World)(hs:dm ts fs)(hd:a8 D)(hm:bc w 0 a1 ts)(hm2:FnsAt w 0 a2 fs)(hf:br w 0 oa ea D)(hsh:ShAt w)(hDB:DB w) :
  Calls Tryz.prog 55 #[.agg #[.slice a1 ts.length c1,.slice a2 fs.length c2],.agg (aK oa ea oc ec D)] w fun e w'=>e=.returned (.bool (pB (eP ts fs D)))/\Below w.heap.size w w':=by
 unfold aK;have hbA:Below w.heap.size w ((w.alloc (.cells #[.slice a1 ts.length c1,.slice a2 fs.length c2] 36)).alloc (.cells #[.int .i64 D.fn,.int .i64 D.entry,.int .i64 D.vals,.int .i64 D.nums,.slice oa D.ops.length oc,.slice ea D.exits.length ec] 41)):=(b_r.alloc n_l _).alloc (by simp) _;have hM0:=au (al w #[.slice a1 ts.length c1,.slice a2 fs.length c2] 36) (.cells #[.int .i64 D.fn,.int .i64 D.entry,.int .i64 D.vals,.int .i64 D.nums,.slice oa D.ops.length oc,.slice ea D.exits.length ec] 41);have hF0:=aA (w.alloc (.cells #[.slice a1 ts.length c1,.slice a2 fs.length c2] 36)) #[.int .i64 D.fn,.int .i64 D.entry,.int .i64 D.vals,.int .i64 D.nums,.slice oa D.ops.length oc,.slice ea D.exits.length ec] 41 (w.heap.size+1) (by simp);go_enter Tryz.func55,Tryz.ntmps55
 go_wp2_with fail
 refine (iAll_any a1 a2 c1 c2 ts fs _ hs (hm.mono hbA) (hm2.mono hbA)).mono ?_;rintro e w1 ⟨⟨v,c,f,a,⟨vx,vn,vk,rfl⟩,rfl,hV,hGd⟩,hb⟩;have hM1:=ah hM0 hb;have hF1:=ah hF0 hb;have hB1:=hbA.trans (hb.mono hbA.size);have HG:Hid (c=0↔Good ts fs):=hV.good;have HGD:Hid (c=0->∃G,Value.slice vx vn vk=.slice (some ⟨G,0,none⟩) fs.length fs.length/\Hs w1 ((w.alloc (.cells #[.slice a1 ts.length c1,.slice a2 fs.length c2] 36)).alloc (.cells #[.int .i64 D.fn,.int .i64 D.entry,.int .i64 D.vals,.int .i64 D.nums,.slice oa D.ops.length oc,.slice ea D.exits.length ec] 41)).heap.size G fs.length fs):=hGd;have HMOD:Hid (Good ts fs->modB ts fs=true):=good_mod;clear hM0 hF0 hb hbA hV hGd;obtain⟨wT,hwT⟩:∃wT,wT=(w1.alloc (.cells #[.int .i64 c,.int .i64 f,.int .i64 a] 168)).alloc (.cells #[.slice a1 ts.length c1,.slice a2 fs.length c2,.slice vx vn vk,.int .i64 D.fn,.int .i64 D.entry,.int .i64 D.vals,.int .i64 D.nums,.slice oa D.ops.length oc,.slice ea D.exits.length ec,.slice a2 fs.length c2,.slice oa D.ops.length oc,.slice ea D.exits.length ec] 175):=⟨_,rfl⟩;have hbT:Below w1.heap.size w1 wT:=by rw[hwT];exact (b_r.alloc n_l _).alloc (by simp) _
 have hT:wT.heap[w1.heap.size]?=some (.cells #[.int .i64 c,.int .i64 f,.int .i64 a] 168 (0,0)):=by rw[hwT];exact au (al _ _ _) _
 have hL:wT.heap[w1.heap.size+1]?=some (.cells #[.slice a1 ts.length c1,.slice a2 fs.length c2,.slice vx vn vk,.int .i64 D.fn,.int .i64 D.entry,.int .i64 D.vals,.int .i64 D.nums,.slice oa D.ops.length oc,.slice ea D.exits.length ec,.slice a2 fs.length c2,.slice oa D.ops.length oc,.slice ea D.exits.length ec] 175 (0,0)):=by rw[hwT];exact aA _ _ _ _ (by simp)
 have hBT:=hB1.trans (hbT.mono hB1.size);have m1:=ae hM1;have f1:=ae hF1;have m2:=ae (au hM1 (.cells #[.int .i64 c,.int .i64 f,.int .i64 a] 168));have f2:=ae (au hF1 (.cells #[.int .i64 c,.int .i64 f,.int .i64 a] 168));by_cases hc0:c=0
 case neg=>
  have HN:Hid (¬Good ts fs):=fun q=>hc0 (HG.out.2 q)
  have gc:(c == 0)=false:=by simpa using hc0
  have t0:=ae hT;clear hc0 hL HG HGD;go_upto_region 3 with fail
  rw[<-hwT];clear hwT m1 f1 m2 f2;go_wp2;go_ret
  exact⟨ax (aJ (fun q=>HN.out q.1)).symm,hBT⟩
 subst hc0;obtain⟨G,hvG,hHs⟩:=HGD.out rfl
 cases hvG;have hG:Good ts fs:=HG.out.1 rfl;have hmod:=HMOD.out hG;have lim:Lim fs D:=⟨hs.funcs,hs.code,hd,fun k hk=>dZ hmod hk⟩;have hLk:Look fs D a1 a2 oa ea ts.length c1 c2 oc ec G _ (w1.heap.size+1) wT:=⟨hL,hm2.mono hBT,hHs.mono hbT,hf.ops.mono hBT,hf.exits.mono hBT,hsh.mono hBT⟩;have HLK:Hid (Look fs D a1 a2 oa ea ts.length c1 c2 oc ec G _ (w1.heap.size+1) wT):=hLk;have HLIM:Hid (Lim fs D):=lim;have HDB:Hid (DB wT):=hDB.mono hBT;have HGG:Hid (Good ts fs):=hG;have HB:Hid (Below w.heap.size w wT):=hBT;have t0:=ae hT;clear hLk lim hG hHs hL HG HGD hT hBT hmod hbT hB1 hM1 hF1;go_upto_region 3 with fail
 rw[<-hwT];clear hwT m1 f1 m2 f2;go_wp2_with fail
 refine (entryOk_any HLK.out HDB.out HGG.out).mono ?_;rintro e w2 ⟨rfl,hb2⟩;have HLK2:=HLK.out.mono hb2;have HB2:Hid (Below w.heap.size w w2):=HB.out.trans (hb2.mono HB.out.size);have HLK2':Hid (Look fs D a1 a2 oa ea ts.length c1 c2 oc ec G _ (w1.heap.size+1) w2):=HLK2;clear HLK2 hb2 t0;by_cases h0:cS fs D
 case neg=>
  rw[aJ h0];have HN:Hid (¬cS fs D):=h0;clear h0;go_wp2;go_ret
  exact⟨ax (aJ (fun q=>HN.out q.2.1)).symm,HB2.out⟩
 rw[aL h0];have H0:Hid (cS fs D):=h0;clear h0;go_wp2_with fail
 refine (opsOk_any HLK2'.out HLIM.out).mono ?_;rintro e w3 ⟨rfl,hb3⟩;have HLK3:Hid (Look fs D a1 a2 oa ea ts.length c1 c2 oc ec G _ (w1.heap.size+1) w3):=HLK2'.out.mono hb3;have HB3:Hid (Below w.heap.size w w3):=HB2.out.trans (hb3.mono HB2.out.size);clear hb3;by_cases h1:OpsP fs D
 case neg=>
  rw[aJ h1];have HN:Hid (¬OpsP fs D):=h1;clear h1;go_wp2;go_ret
  exact⟨ax (aJ (fun q=>HN.out q.2.2.1)).symm,HB3.out⟩
 rw[aL h1];have H1:Hid (OpsP fs D):=h1;clear h1;go_wp2_with fail
 refine (exitsOk_any HLK3.out HLIM.out).mono ?_;rintro e w4 ⟨rfl,hb4⟩;have HB4:Hid (Below w.heap.size w w4):=HB3.out.trans (hb4.mono HB3.out.size);go_wp2;go_ret
 exact⟨bP (by rw[dr];exact⟨fun q=>⟨HGG.out,H0.out,H1.out,q⟩,fun q=>q.2.2.2⟩),HB4.out⟩
def dF (fa ra:Option Addr)(fc rc:Nat)(x:Ex):Array Value:=#[.int .i64 x.kind,.int .i64 x.spec.f,.int .i64 x.spec.pc,.int .i64 x.spec.seen,.int .i64 x.spec.target,.slice fa x.frames.length fc,.slice ra x.recs.length rc]
def zeroX:Ex:=⟨0,zeroS,[],[]⟩
theorem seven_set{w:World}{g:Nat}{a0 a1 a2 a3 a4 a5 a6 x0 x1 x2 x3 x4 x5 x6:Value}{t:TypeId}(h:w.heap[g]?=some (.cells #[a0,a1,a2,a3,a4,a5,a6] t (0,0))) :
  (((((((w.setCell ⟨g,0,none⟩ x0).setCell ⟨g,1,none⟩ x1).setCell ⟨g,2,none⟩ x2).setCell ⟨g,3,none⟩ x3).setCell ⟨g,4,none⟩ x4).setCell ⟨g,5,none⟩ x5).setCell ⟨g,6,none⟩ x6).heap[g]?=some (.cells #[x0,x1,x2,x3,x4,x5,x6] t (0,0)):=by
 simpa using ak (i:=6) (ak (i:=5) (ak (i:=4) (ak (i:=3) (ak (i:=2) (ak (i:=1) (ak (i:=0) h x0) x1) x2) x3) x4) x5) x6
theorem seven_below{w w':World}{n g:Nat}{x0 x1 x2 x3 x4 x5 x6:Value}(h:Below n w w')(hg:n<=g) :
  Below n w (((((((w'.setCell ⟨g,0,none⟩ x0).setCell ⟨g,1,none⟩ x1).setCell ⟨g,2,none⟩ x2).setCell ⟨g,3,none⟩ x3).setCell ⟨g,4,none⟩ x4).setCell ⟨g,5,none⟩ x5).setCell ⟨g,6,none⟩ x6):=
 ((((((h.setCell hg _).setCell hg _).setCell hg _).setCell hg _).setCell hg _).setCell hg _).setCell hg _
def XPost (ts:List ByteArray)(fs:List Fn)(D:aR)(x:Int)(w:World)(e:Ending):Prop:=
 ∃(b:Bool) (E:Ex) (fa ra:Option Addr) (fc rc:Nat),e=.returned (.tuple #[.agg (dF fa ra fc rc E),.bool b]) /\
  ((b=true/\eP ts fs D/\∃(k:Nat) (h:k<D.exits.length),x=k/\E=D.exits[k]/\cg w 0 fa E.frames/\cj w 0 ra E.recs)\/(b=false/\¬(eP ts fs D/\Reg x D.exits.length)/\E=zeroX))
theorem exitOf_any(a1 a2 oa ea:Option Addr)(c1 c2 oc ec:Nat)(ts:List ByteArray)(fs:List Fn)(D:aR)(x:Int)(w:World)(hs:dm ts fs)(hd:a8 D)(hm:bc w 0 a1 ts)(hm2:FnsAt w 0 a2 fs)(hf:br w 0 oa ea D)(hsh:ShAt w)(hDB:DB w) :
  Calls Tryz.prog 78 #[.agg #[.slice a1 ts.length c1,.slice a2 fs.length c2],.agg (aK oa ea oc ec D),.int .i64 x] w fun e w'=>XPost ts fs D x w e/\Below w.heap.size w w':=by
 unfold aK;obtain⟨wA,hwA⟩:∃wA,wA=((w.alloc (.cells #[.slice a1 ts.length c1,.slice a2 fs.length c2] 36)).alloc (.cells #[.int .i64 D.fn,.int .i64 D.entry,.int .i64 D.vals,.int .i64 D.nums,.slice oa D.ops.length oc,.slice ea D.exits.length ec] 41)).alloc (.cells #[.int .i64 0,.int .i64 0,.int .i64 0,.int .i64 0,.int .i64 0,.slice none 0 0,.slice none 0 0] 101):=⟨_,rfl⟩;have hbA:Below w.heap.size w wA:=by rw[hwA];exact ((b_r.alloc n_l _).alloc (by simp) _).alloc (by simp;omega) _
 have hM0:wA.heap[w.heap.size]?=some (.cells #[.slice a1 ts.length c1,.slice a2 fs.length c2] 36 (0,0)):=by rw[hwA];exact au (au (al _ _ _) _) _
 have hF0:wA.heap[w.heap.size+1]?=some (.cells #[.int .i64 D.fn,.int .i64 D.entry,.int .i64 D.vals,.int .i64 D.nums,.slice oa D.ops.length oc,.slice ea D.exits.length ec] 41 (0,0)):=by rw[hwA];exact au (aA _ _ _ _ (by simp)) _
 have hR0:wA.heap[w.heap.size+1+1]?=some (.cells #[.int .i64 0,.int .i64 0,.int .i64 0,.int .i64 0,.int .i64 0,.slice none 0 0,.slice none 0 0] 101 (0,0)):=by rw[hwA];exact aA _ _ _ _ (by simp)
 have m0:=ae hM0;have f0:=ae hF0;have r0:=ae hR0;have r1:=aq hR0;have HB:Hid (Below w.heap.size w wA):=hbA;have g0:(Value.agg #[.int .i64 0,.int .i64 0,.int .i64 0,.int .i64 0,.int .i64 0,.slice none 0 0,.slice none 0 0])=.agg (dF none none 0 0 zeroX):=rfl;rw[hwA] at m0 f0 r0 r1;by_cases hr:Reg x D.exits.length
 case neg=>
  have HN:Hid (¬(eP ts fs D/\Reg x D.exits.length)):=fun q=>hr q.2
  have hp:=aJ hr;clear hr;go_enter Tryz.func78,Tryz.ntmps78
  go_wp2_with fail
  refine (ee _ _ _ _ _).mono ?_;rintro e w1 ⟨rfl,hw⟩;rw[hw,hp];clear hw w1 hp;go_wp2;refine bodyPost_ret (v:=.tuple #[.agg #[.int .i64 0,.int .i64 0,.int .i64 0,.int .i64 0,.int .i64 0,.slice none 0 0,.slice none 0 0],.bool false]) (by simp[results,Tryz.results78,go_sem]) rfl ⟨⟨false,zeroX,none,none,0,0,rfl,.inr ⟨rfl,HN.out,rfl⟩⟩,?_⟩;rw[<-hwA];exact HB.out
 obtain⟨k,hxk⟩:∃k:Nat,x=k:=⟨x.toNat,by have:=hr.1;omega⟩;subst hxk;have hk:k<D.exits.length:=by have:=hr.2;omega
 have hp:=aL hr;clear hr;have zk:(k:Int)<(D.exits.length:Int):=by omega
 obtain⟨be,oe,fa,fc,ra,rc,hea,-,e0,e1,e2,e3,e4,e5,e6,p0,p1⟩:=hf.exits k hk;subst hea;have HP0:Hid (cg w 0 fa D.exits[k].frames):=p0;have HP1:Hid (cj w 0 ra D.exits[k].recs):=p1;have hok:=fun w'=>iFastOk_any a1 a2 oa (some ⟨be,oe,none⟩) c1 c2 oc ec ts fs D w' hs hd
 unfold aK at hok;have HOK:Hid (∀w',Below w.heap.size w w'->Calls Tryz.prog 55 #[.agg #[.slice a1 ts.length c1,.slice a2 fs.length c2],.agg #[.int .i64 D.fn,.int .i64 D.entry,.int .i64 D.vals,.int .i64 D.nums,.slice oa D.ops.length oc,.slice (some ⟨be,oe,none⟩) D.exits.length ec]] w' fun e w''=>e=.returned (.bool (pB (eP ts fs D)))/\Below w'.heap.size w' w''):=fun w' q=>hok w' (hm.mono q) (hm2.mono q) (hf.mono q) (hsh.mono q) (hDB.mono q)
 clear hok p0 p1;go_enter Tryz.func78,Tryz.ntmps78
 go_wp2_with fail
 refine (ee _ _ _ _ _).mono ?_;rintro e w1 ⟨rfl,hw⟩;rw[hw,hp];clear hw w1 hp;go_wp2_with fail
 rw[<-hwA];clear hwA m0 f0 r0 r1;refine (HOK.out _ HB.out).mono ?_;rintro e w2 ⟨rfl,hb⟩;have hB2:=HB.out.trans (hb.mono HB.out.size);have hR2:=ah hR0 hb;have hF2:=ah hF0 hb;have r2:=ae hR2;have r3:=aq hR2;have HB2:Hid (Below w.heap.size w w2):=hB2;by_cases hP:eP ts fs D
 case neg=>
  rw[aJ hP];have HN:Hid (¬(eP ts fs D/\Reg (k:Int) D.exits.length)):=fun q=>hP q.1
  have rr:=ae (seven_set (x0:=.int .i64 0) (x1:=.int .i64 0) (x2:=.int .i64 0) (x3:=.int .i64 0) (x4:=.int .i64 0) (x5:=.slice none 0 0) (x6:=.slice none 0 0) hR2);clear hP hb hB2 hF2 hM0 hF0 hR0;go_wp2;refine bodyPost_ret (v:=.tuple #[.agg #[.int .i64 0,.int .i64 0,.int .i64 0,.int .i64 0,.int .i64 0,.slice none 0 0,.slice none 0 0],.bool false]) (by simp[results,Tryz.results78,go_sem,rr]) rfl ⟨⟨false,zeroX,none,none,0,0,rfl,.inr ⟨rfl,HN.out,rfl⟩⟩,?_⟩;exact seven_below HB2.out (by omega)
 rw[aL hP];have HP:Hid (eP ts fs D):=hP;have f2:=ae hF2;have E0:=cell_later hB2 e0;have E1:=cell_later hB2 e1;have E2:=cell_later hB2 e2;have E3:=cell_later hB2 e3;have E4:=cell_later hB2 e4;have E5:=cell_later hB2 e5;have E6:=cell_later hB2 e6;have rr:=ae (seven_set (x0:=.int .i64 D.exits[k].kind) (x1:=.int .i64 D.exits[k].spec.f) (x2:=.int .i64 D.exits[k].spec.pc) (x3:=.int .i64 D.exits[k].spec.seen) (x4:=.int .i64 D.exits[k].spec.target) (x5:=.slice fa D.exits[k].frames.length fc) (x6:=.slice ra D.exits[k].recs.length rc) hR2);clear hP hb hB2 hF2 hM0 hF0 hR0 e0 e1 e2 e3 e4 e5 e6;go_wp2;refine bodyPost_ret (v:=.tuple #[.agg (dF fa ra fc rc D.exits[k]),.bool true]) (by simp[dF,results,Tryz.results78,go_sem,rr]) rfl ⟨⟨true,D.exits[k],fa,ra,fc,rc,rfl,.inl ⟨rfl,HP.out,k,hk,rfl,rfl,HP0.out,HP1.out⟩⟩,?_⟩;exact seven_below HB2.out (by omega)
structure RbYes (vals:List Vl)(nums:List Int)(x:Ex)(hs:List (List Vl))(J:Nat)(w w':World)(F mid:Nat)(curF:Array Value)(q:Value)(bs:List Nat):Prop where
 lo:w.heap.size<=F
 fm:F<mid
 blk:w'.heap[F]?=some (.cells curF 136 (0,0))
 size:curF.size=x.frames.length*4
 each:∀j (h:j<x.frames.length),FrIs vals nums hs.length w' w.heap.size curF j (metFs [] (x.frames.take j)) x.frames[j]
 ap:ApC mid (x.frames.length*4) curF
 row:RowO w' mid q bs (hs++(aS vals nums hs.length x.recs (metFs [] x.frames) J).2)
def fM (vals:List Vl)(nums:List Int)(x:Ex)(hs:List (List Vl))(w:World)(e:Ending)(w':World):Prop:=
 ∃J,Built vals nums hs.length x.recs (metFs [] x.frames) J /\
  ((hs.length+J<=120/\∃F mid curF q bs,e=.returned (.tuple #[.slice (some ⟨F,0,none⟩) x.frames.length x.frames.length,q])/\RbYes vals nums x hs J w w' F mid curF q bs) \/
   (120<hs.length+J/\e=.returned (.tuple #[.slice none 0 0,.slice none 0 0])))
theorem rebuilt_any(x:Ex)(fa ra va na ha:Option Addr)(fc rc vc nc hcp:Nat)(vals:List Vl)(nums:List Int)(hs:List (List Vl))(w:World)
  (hF:cg w 0 fa x.frames) (hR:cj w 0 ra x.recs) (hva:aQ w 0 va vals) (hna:a9 w 0 na nums) (hH:bT w 0 ha hs)
  (hv:aE vals)(hnl:nums.length<=1048576)(hhl:hs.length<=1048576)(hhc:∀r∈hs,aE r)(hfl:x.frames.length<=1048576)(hfs:∀f∈x.frames,FrFits vals.length nums.length f)(hfew:FewF [] x.frames)(hrs:∀r∈x.recs,r.fields.length<=6/\(∀s∈r.fields,et vals.length nums.length s)/\cE x.recs.length r.fields)(hrn:x.recs.length<=60)(hfi:∀f∈x.frames,cE x.recs.length f.locals/\cE x.recs.length f.stack) :
  Calls Tryz.prog 81 #[.agg (dF fa ra fc rc x),.slice va vals.length vc,.slice na nums.length nc,.slice ha hs.length hcp] w fun e w'=>fM vals nums x hs w e w'/\Below w.heap.size w w':=by
 have hmf:∀(fn:Go.Fn) (first cap:Array Value) (w:World),(Instr.makeFunc fn first cap).run Tryz.prog w=.ok (.func fn first cap) w:=fun _ _ _ _=>rfl
 unfold dF;obtain⟨wA,hwA⟩:∃wA,wA=(w.alloc (.cells #[.int .i64 x.kind,.int .i64 x.spec.f,.int .i64 x.spec.pc,.int .i64 x.spec.seen,.int .i64 x.spec.target,.slice fa x.frames.length fc,.slice ra x.recs.length rc] 101)).alloc (.cells #[.slice ha hs.length hcp] 59):=⟨_,rfl⟩;have hbA:Below w.heap.size w wA:=by rw[hwA];exact (b_r.alloc n_l _).alloc (by simp) _
 have hE0:wA.heap[w.heap.size]?=some (.cells #[.int .i64 x.kind,.int .i64 x.spec.f,.int .i64 x.spec.pc,.int .i64 x.spec.seen,.int .i64 x.spec.target,.slice fa x.frames.length fc,.slice ra x.recs.length rc] 101 (0,0)):=by rw[hwA];exact au (al _ _ _) _
 have hH0:wA.heap[w.heap.size+1]?=some (.cells #[.slice ha hs.length hcp] 59 (0,0)):=by rw[hwA];exact aA _ _ _ _ (by simp)
 have hsA:wA.heap.size=w.heap.size+2:=by rw[hwA];simp
 have HsA:Hid (wA.heap.size=w.heap.size+2):=hsA;clear hsA;go_enter Tryz.func81,Tryz.ntmps81
 go_upto_region 1 with fail
 rw[<-hwA];clear hwA;go_wp2_with fail
 refine (newMeet_any w.heap.size wA hbA.size).mono ?_;rintro e w1 ⟨rfl,hM1,hb1⟩;have hE1:=ah hE0 hb1;have hH1:=ah hH0 hb1;obtain⟨w2,hw2⟩:∃w2,w2=w1.alloc (.cells #[.pointer (some ⟨wA.heap.size+1,0,none⟩)] 204):=⟨_,rfl⟩;have hb2:Below w1.heap.size w1 w2:=by rw[hw2];exact b_r.alloc n_l _
 have hU2:w2.heap[w1.heap.size]?=some (.cells #[.pointer (some ⟨wA.heap.size+1,0,none⟩)] 204 (0,0)):=by
  rw[hw2];exact al _ _ _
 go_upto_region 2 with fail
 rw[<-hw2];clear hw2;go_wp2_with fail
 refine (worthIn_any va na vals.length vc nums.length nc (w.heap.size+1) w1.heap.size w2).mono ?_;rintro e w3 ⟨rfl,hV3,hN3,hP3,hb3⟩;obtain⟨w4,hw4⟩:∃w4,w4=w3.alloc (.cells #[.func (.func 183) #[] #[.pointer (some ⟨w2.heap.size,0,none⟩),.pointer (some ⟨w2.heap.size+1,0,none⟩),.pointer (some ⟨w2.heap.size+2,0,none⟩)]] 206):=⟨_,rfl⟩;have hb4:Below w3.heap.size w3 w4:=by rw[hw4];exact b_r.alloc n_l _
 have hW4:w4.heap[w3.heap.size]?=some (.cells #[.func (.func 183) #[] #[.pointer (some ⟨w2.heap.size,0,none⟩),.pointer (some ⟨w2.heap.size+1,0,none⟩),.pointer (some ⟨w2.heap.size+2,0,none⟩)]] 206 (0,0)):=by rw[hw4];exact al _ _ _
 go_upto_region 3 with fail
 rw[<-hw4];clear hw4;have b02:Below w.heap.size w w2:=(hbA.trans (hb1.mono hbA.size)).trans (hb2.mono ((hbA.trans (hb1.mono hbA.size)).size));have b24:Below w2.heap.size w2 w4:=hb3.trans (hb4.mono hb3.size);have b04:Below w.heap.size w w4:=b02.trans (b24.mono b02.size);have q4:WIn w w4 w.heap.size w2.heap.size (w2.heap.size+1) (w2.heap.size+2) (w.heap.size+1) w1.heap.size (wA.heap.size+1) va na ha vals.length vc nums.length nc hs.length hcp:=⟨b04,Nat.le_refl _,ah hV3 hb4,ah hN3 hb4,ah hP3 hb4,ah (ah hH1 hb2) b24,ah hU2 b24⟩;have hM4:=(hM1.mono hb2).mono b24;have hE4:=ah (ah hE1 hb2) b24;have e4:=ae hE4;have h4:=ae q4.h;clear hE0 hH0 hE1 hH1 hU2 hV3 hN3 hP3 hM1;go_wp2_with fail
 refine (eachF_any vals nums fa x.frames fc (.slice none 0 0) [] q4 hW4 hM4 hfew hhl hv hnl hva hna hfl hfs hF).mono ?_;rintro e w5 ⟨cur5,rfl,hB5,hF5,hz5,hA5,hK5,mv5,hM5⟩;have q5:=q4.km hK5;have hE5:=hK5.kept hE4 ⟨by decide,by decide⟩;have hW5:=hK5.kept hW4 ⟨by decide,by decide⟩;have h5:=ae q5.h;clear q4 hM4 hE4 e4 h4 hW4 hK5;go_wp2_with fail
 refine (ownHeap_any ha hs hcp w5 hhl hhc (hH.mono q5.b0)).mono ?_;rintro e w6 ⟨cur6,rfl,hR6,hb6⟩;obtain⟨bs6,hRow6⟩:=hR6.row (B:=w5.heap.size) n_l (by omega) hhl;obtain⟨J,hJl,hJ⟩:=built_some vals nums hs.length (recs:=x.recs) (fun r hr=>(hrs r hr).2.2) (met0:=metFs [] x.frames) (MetOk.frames x.frames (MetOk.nil _) hfi);have q6:=q5.km (Km.of hb6);have hM6:=hM5.mono hb6;have hE6:=ah hE5 hb6;have hW6:=ah hW5 hb6;have HF:Hid ((∀j (h:j<x.frames.length),FrIs vals nums hs.length w6 w.heap.size cur5 j (metFs [] (x.frames.take j)) x.frames[j])/\w6.heap[w4.heap.size]?=some (.cells cur5 136 (0,0))/\ApC w5.heap.size (x.frames.length*4) cur5):=⟨fun j hj=>by
  obtain⟨g1,g2,l1,l2,r⟩:=(hF5 j hj).kept (w':=w6) (cur':=cur5) (fun g c _ ho=>ah ho hb6) (fun _ _=>rfl);exact⟨g1,g2,by have:=b04.size;omega,by have:=b04.size;omega,r⟩,ah hB5 hb6,hA5⟩
 have hs56:=hb6.size;have HJ:Hid (Built vals nums hs.length x.recs (metFs [] x.frames) J):=hJ;have hsz5:w4.heap.size<w5.heap.size:=ay hB5;have hmet:∀k,(aS vals nums hs.length x.recs (metFs [] x.frames) k).1.length<=60:=fun k=>Nat.le_trans (c7 vals nums hs.length (recs:=x.recs) (fun r hr=>(hrs r hr).2.2) (met0:=metFs [] x.frames) (MetOk.frames x.frames (MetOk.nil _) hfi) k).few hrn
 have HSz:Hid (cur5.size=x.frames.length*4/\w.heap.size<=w4.heap.size):=⟨hz5,b04.size⟩;clear q5 hM5 hE5 hW5 h5 hF5 hB5 hA5 hR6 hz5 hF b24 b02 b04 hbA hb1 hb2 hb3 hb4;go_wp2_with fail
 go_loopw [13,14] (fun qv i wr=>∃(k:Nat) (bs:List Nat) (mv':Value),i=.int .i64 k/\k<=J/\Kr w.heap.size w6 wr/\RowO wr w5.heap.size qv bs (hs++(aS vals nums hs.length x.recs (metFs [] x.frames) k).2)/\MetAt wr w.heap.size (wA.heap.size+1) wA.heap.size mv' (aS vals nums hs.length x.recs (metFs [] x.frames) k).1) (fun _ i _=>J-(intOf i).toNat)
 case atStart=>exact⟨0,bs6,mv5,rfl,by omega,Kr.refl _ _,by simpa[aS] using hRow6,hM6⟩
 case round=>
  obtain⟨k,bs,mv',rfl,hkJ,hKr,hRow,hMt⟩:=hrel;have qr:=q6.kr hKr;have hEr:=hKr.kept hE6 ⟨by decide,by decide,by decide⟩;have hWr:=hKr.kept hW6 ⟨by decide,by decide,by decide⟩;have u1:=ae qr.u;have n1:=ae hMt.num;obtain⟨ma,mc,rfl⟩:∃a cap,mv'=.slice a (aS vals nums hs.length x.recs (metFs [] x.frames) k).1.length cap:=by
   rcases hMt.met.2 with ⟨e,h0⟩ | ⟨b,cp,cu,e,-⟩
   ·exact⟨none,0,by rw[e,h0]⟩
   ·exact⟨_,cp,e⟩
  have hmk:=hmet k;have hlenR:=da vals nums hs.length x.recs (metFs [] x.frames) k;by_cases hlt:k<(aS vals nums hs.length x.recs (metFs [] x.frames) k).1.length
  ·obtain⟨r,hr,hrl⟩:=recsAt_in vals nums hs.length (recs:=x.recs) (fun r hr=>(hrs r hr).2.2) (met0:=metFs [] x.frames) (MetOk.frames x.frames (MetOk.nil _) hfi) k hlt;have hkJ2:k<J:=by
    rcases Nat.lt_or_ge k J with h | h
    ·exact h
    ·have e:k=J:=by omega
     have:=HJ.out.done;rw[e] at hlt;omega
   obtain⟨mg,rfl,hmg⟩:∃mg,ma=some ⟨mg,0,none⟩/\wr.cell? ⟨mg,k,none⟩=some (.int .i64 (r:Int)):=by
    rcases hMt.met.2 with ⟨e,h0⟩ | ⟨b,cp,cu,e,-,hh,-,-,hcs,htk⟩
    ·omega
    ·cases e;refine⟨b,rfl,?_⟩;rw[ae hh,<-Array.getElem?_toList];have e2:=congrArg (fun l=>l[k]?) htk;simp only[List.getElem?_take,Nat.mul_one] at e2
     rw[if_pos hlt] at e2;rw[e2,List.getElem?_map,List.getElem?_eq_getElem hlt,hr];rfl
   obtain⟨rb,ro,fa2,fc2,rfl,-,hrc,hfr⟩:=hR r hrl;have hrc':=cell_later qr.b0 hrc;have hfn:=hrs x.recs[r] (g_m hrl);have hsr:=hfn.2.1;have hf6:=hfn.1;have hrI:(r:Int)<(x.recs.length:Int):=by omega
   have hkI:(k:Int)<((aS vals nums hs.length x.recs (metFs [] x.frames) k).1.length:Int):=by omega
   have hfw:∀j≤x.recs[r].fields.length,(metL (aS vals nums hs.length x.recs (metFs [] x.frames) k).1 (x.recs[r].fields.take j)).length<=1048576:=fun j _=>by
    have h1:=(c7 vals nums hs.length (recs:=x.recs) (fun r hr=>(hrs r hr).2.2) (met0:=metFs [] x.frames) (MetOk.frames x.frames (MetOk.nil _) hfi) k).srcs (x.recs[r].fields.take j) (fun s hs=>hfn.2.2 s (List.mem_of_mem_take hs));have:=h1.few;omega
   have hst:aS vals nums hs.length x.recs (metFs [] x.frames) (k+1)=(metL (aS vals nums hs.length x.recs (metFs [] x.frames) k).1 x.recs[r].fields,(aS vals nums hs.length x.recs (metFs [] x.frames) k).2++[bu vals nums hs.length (aS vals nums hs.length x.recs (metFs [] x.frames) k).1 x.recs[r].fields]):=by
    have e1:dp x.recs ((aS vals nums hs.length x.recs (metFs [] x.frames) k).1.getD k 0)=x.recs[r].fields:=by
     rw[List.getD_eq_getElem?_getD,List.getElem?_eq_getElem hlt,Option.getD_some,hr];unfold dp;rw[List.getD_eq_getElem?_getD,Int.toNat_natCast,List.getElem?_eq_getElem hrl];rfl
    show (_,_)=_
    rw[e1]
   obtain⟨i0,hi0,hz0,hz1,hz2⟩:=info_parts info125;have hlT:(hs++(aS vals nums hs.length x.recs (metFs [] x.frames) k).2).length<=1048700:=by rw[List.length_append];omega
   have hs6r:=hKr.size;have hlE:(hs++(aS vals nums hs.length x.recs (metFs [] x.frames) k).2).length=hs.length+k:=by rw[List.length_append,hlenR]
   have hbd:Below wr.heap.size wr wr.drew:=b_r.drew;have hKd:Km w.heap.size wr wr.drew:=Km.of hbd;have e6:=ae hEr;have w6':=ae hWr;go_upto_region 8 with fail
   have hh:(fun w':World=>w'.cell? ⟨w.heap.size,6,none⟩=some (.slice (some ⟨rb,ro,none⟩) x.recs.length rc)/\w'.cell? ⟨w1.heap.size,0,none⟩=some (.pointer (some ⟨wA.heap.size+1,0,none⟩))/\w'.cell? ⟨wA.heap.size+1,1,none⟩=some (.slice (some ⟨mg,0,none⟩) (aS vals nums hs.length x.recs (metFs [] x.frames) k).1.length mc)/\w'.cell? ⟨mg,k,none⟩=some (.int .i64 (r:Int))/\w'.cell? ⟨rb,ro+r,none⟩=some (.slice fa2 x.recs[r].fields.length fc2)/\w'.cell? ⟨w3.heap.size,0,none⟩=some (.func (.func 183) #[] #[.pointer (some ⟨w2.heap.size,0,none⟩),.pointer (some ⟨w2.heap.size+1,0,none⟩),.pointer (some ⟨w2.heap.size+2,0,none⟩)])) wr.drew:=⟨cell_later hbd (by rw[e6];rfl),cell_later hbd (by rw[u1];rfl),cell_later hbd (by rw[n1];rfl),cell_later hbd hmg,cell_later hbd hrc',cell_later hbd (by rw[w6'];rfl)⟩;refine bC (RS [14,16,17] (fun w':World=>w'.cell? ⟨w.heap.size,6,none⟩=some (.slice (some ⟨rb,ro,none⟩) x.recs.length rc)/\w'.cell? ⟨w1.heap.size,0,none⟩=some (.pointer (some ⟨wA.heap.size+1,0,none⟩))/\w'.cell? ⟨wA.heap.size+1,1,none⟩=some (.slice (some ⟨mg,0,none⟩) (aS vals nums hs.length x.recs (metFs [] x.frames) k).1.length mc)/\w'.cell? ⟨mg,k,none⟩=some (.int .i64 (r:Int))/\w'.cell? ⟨rb,ro+r,none⟩=some (.slice fa2 x.recs[r].fields.length fc2)/\w'.cell? ⟨w3.heap.size,0,none⟩=some (.func (.func 183) #[] #[.pointer (some ⟨w2.heap.size,0,none⟩),.pointer (some ⟨w2.heap.size+1,0,none⟩),.pointer (some ⟨w2.heap.size+2,0,none⟩)]))) (by kernel_rfl) ?_;refine tkP (i:=0) (v:=?_) rfl (by kernel_rfl) (fun _ _ _ h=>h) ?_ ?_
   rotate_left
   ·intro w';go_simp;try with_reducible rfl
   simp only[Act.put,List.setIfInBounds_toArray]
   refine tkP (i:=1) (v:=?_) rfl (by kernel_rfl) (fun _ _ _ h=>h) ?_ ?_;rotate_left
   ·intro w';go_simp;try with_reducible rfl
   simp only[Act.put]
   refine tkS (i:=2) [10,11,12,14,15,16,17,18] (v:=?_) rfl (by kernel_rfl) (by kernel_rfl) (fun _ _ _ h=>h) ?_ hh ?_;rotate_left
   ·intro w' hSw;obtain⟨y0,y1,y2,y3,y4,y5⟩:=hSw;go_simp;try with_reducible rfl
   simp only[Act.put]
   refine tkS (i:=3) [4,5,6,8,9,10,11,12,14,15,16,17,18] (v:=?_) rfl (by kernel_rfl) (by kernel_rfl) (fun _ _ _ h=>h) ?_ hh ?_;rotate_left
   ·intro w' hSw;obtain⟨y0,y1,y2,y3,y4,y5⟩:=hSw;go_simp;try with_reducible rfl
   simp only[Act.put]
   refine tkP (i:=4) (v:=?_) rfl (by kernel_rfl) (fun _ _ _ h=>h) ?_ ?_;rotate_left
   ·intro w';go_simp;try with_reducible rfl
   simp only[Act.put]
   refine tkP (i:=5) (v:=?_) rfl (by kernel_rfl) (fun _ _ _ h=>h) ?_ ?_;rotate_left
   ·intro w';go_simp;try with_reducible rfl
   simp only[Act.put]
   refine tkS (i:=6) [8,9,10,11,12,14,15,16,17,18] (v:=?_) rfl (by kernel_rfl) (by kernel_rfl) (fun _ _ _ h=>h) ?_ hh ?_;rotate_left
   ·intro w' hSw;obtain⟨y0,y1,y2,y3,y4,y5⟩:=hSw;go_simp;try with_reducible rfl
   simp only[Act.put]
   refine tkP (i:=7) (v:=?_) rfl (by kernel_rfl) (fun _ _ _ h=>h) ?_ ?_;rotate_left
   ·intro w';go_simp;try with_reducible rfl
   simp only[Act.put]
   refine tkP (i:=8) (v:=?_) rfl (by kernel_rfl) (fun _ _ _ h=>h) ?_ ?_;rotate_left
   ·intro w';go_simp;try with_reducible rfl
   simp only[Act.put]
   refine tkS (i:=9) [10,11,12,14,15,16,17,18] (v:=?_) rfl (by kernel_rfl) (by kernel_rfl) (fun _ _ _ h=>h) ?_ hh ?_;rotate_left
   ·intro w' hSw;obtain⟨y0,y1,y2,y3,y4,y5⟩:=hSw;go_simp;try with_reducible rfl
   simp only[Act.put]
   refine tkP (i:=10) (v:=?_) rfl (by kernel_rfl) (fun _ _ _ h=>h) ?_ ?_;rotate_left
   ·intro w';go_simp;try with_reducible rfl
   simp only[Act.put]
   refine tkP (i:=11) (v:=?_) rfl (by kernel_rfl) (fun _ _ _ h=>h) ?_ ?_;rotate_left
   ·intro w';go_simp;try with_reducible rfl
   simp only[Act.put]
   refine tkS (i:=12) [14,15,16,17,18] (v:=?_) rfl (by kernel_rfl) (by kernel_rfl) (fun _ _ _ h=>h) ?_ hh ?_;rotate_left
   ·intro w' hSw;obtain⟨y0,y1,y2,y3,y4,y5⟩:=hSw;go_simp;try with_reducible rfl
   simp only[Act.put]
   refine tkS (i:=13) [14,15,16,17,18] (v:=?_) rfl (by kernel_rfl) (by kernel_rfl) (fun _ _ _ h=>h) ?_ hh ?_;rotate_left
   ·intro w' hSw;obtain⟨y0,y1,y2,y3,y4,y5⟩:=hSw;go_simp;try with_reducible rfl
   simp only[Act.put]
   refine ba (i:=14) (o:=_) (by kernel_rfl) rfl (fun Kq hK=>?_);go_simp;refine (fu vals nums fa2 x.recs[r].fields fc2 _ (aS vals nums hs.length x.recs (metFs [] x.frames) k).1 (qr.km (Km.of hbd)) (hMt.mono hbd) hfw hhl hv hnl hva hna (by omega) hsr hfr).mono ?_;rintro e wS ⟨curS,rfl,hBS,hVS,hzS,hKS,mvS,hMS⟩;have hRS:=(hRow.km hKd).km hKS;have hsS:wr.heap.size<wS.heap.size:=ay hBS;refine hK.out _ _ (.inl (by decide)) ?_;clear hK Kq;try simp only[Act.put]
   refine tkP (i:=15) (v:=?_) rfl (by kernel_rfl) (fun _ _ _ h=>h) ?_ ?_;rotate_left
   ·intro w';go_simp;try with_reducible rfl
   simp only[Act.put]
   refine ba (i:=16) (o:=_) (by kernel_rfl) rfl (fun Kq hK=>?_);go_simp;refine hK.out _ _ (.inl (by decide)) ?_;clear hK Kq;try simp only[Act.put]
   refine ba (i:=17) (o:=_) (by kernel_rfl) rfl (fun Kq hK=>?_);refine step_append_lies _ rfl _ _ 59 rfl w5.heap.size 125 i0 (.agg #[.slice none 0 0]) 1 24 Tryz.underlying59 hi0 hz0 hz1 hz2 rfl (by decide) _ _ _ rfl (World.ownsRow.alloc hRS.own _) ⟨wS.heap.size,0,none⟩ 1 1 [.slice (some ⟨wr.heap.size,0,none⟩) x.recs[r].fields.length x.recs[r].fields.length] rfl rfl (World.news_of_block (cs:=#[.slice (some ⟨wr.heap.size,0,none⟩) x.recs[r].fields.length x.recs[r].fields.length]) (t:=125) (fr:=(0,0)) (heap_alloc_new wS _)) (by simp[Value.oneCell']) (by decide) (by unfold maxLen;omega) (by omega) (by simp;omega) _ rfl ?_;intro g3 cap3 wG hown3 hgrow3 hat3 hlt3;refine hK.out _ _ (.inl (by decide)) ?_;clear hK Kq;try simp only[Act.put]
   refine tkP (i:=18) (v:=?_) rfl (by kernel_rfl) (fun _ _ _ h=>h) ?_ ?_;rotate_left
   ·intro w';go_simp;try with_reducible rfl
   simp only[Act.put]
   refine bB (by kernel_rfl) ?_ _;go_wp2;have HT:Hid (Kr w.heap.size w6 wG/\RowO wG w5.heap.size (.slice (some ⟨g3,0,none⟩) ((hs++(aS vals nums hs.length x.recs (metFs [] x.frames) k).2).length+1) cap3) (bs++[wr.heap.size]) (hs++(aS vals nums hs.length x.recs (metFs [] x.frames) (k+1)).2)/\MetAt wG w.heap.size (wA.heap.size+1) wA.heap.size mvS (aS vals nums hs.length x.recs (metFs [] x.frames) (k+1)).1):=by
    have hbe:Below wS.heap.size wS (wS.alloc (.cells #[.slice (some ⟨wr.heap.size,0,none⟩) x.recs[r].fields.length x.recs[r].fields.length] 125)):=b_r.alloc n_l _;refine⟨(((hKr.trans (Kr.of hbd)).trans (Kr.km hKS)).trans (Kr.of hbe)).grown (World.ownsRow.alloc hRS.own _) hgrow3 (by have:=HSz.out.2;omega),?_,?_⟩
    ·rw[hst,<-List.append_assoc];refine (hRS.mono hbe).next (by omega) (fun hin=>by have:=hRow.lt _ hin;omega) ((RowV.blk hBS hVS hzS).mono hbe) ?_ hgrow3;have e9:rSl wr.heap.size (bu vals nums hs.length (aS vals nums hs.length x.recs (metFs [] x.frames) k).1 x.recs[r].fields)=.slice (some ⟨wr.heap.size,0,none⟩) x.recs[r].fields.length x.recs[r].fields.length:=by unfold rSl;rw[bN]
     rw[e9];exact hown3
    ·rw[hst];exact (hMS.mono hbe).grew (World.ownsRow.alloc hRS.own _) ⟨by decide,by decide⟩ hgrow3
   clear hh hRS hBS hVS hzS hKS hMS hown3 hgrow3 hat3 hlt3;go_roundw
   case rel=>exact⟨k+1,_,mvS,by go_num,by omega,HT.out.1,by rw[<-hlE];exact HT.out.2.1,HT.out.2.2⟩
   case measure=>simp[intOf];omega
  ·have hkJ2:k=J:=by
    rcases Nat.lt_or_ge k J with h | h
    ·exact absurd (HJ.out.more k h) hlt
    ·omega
   obtain⟨qa,qc,rfl⟩:∃a c,u13=.slice a (hs++(aS vals nums hs.length x.recs (metFs [] x.frames) k).2).length c:=by
    rcases hRow.own.2 with ⟨e,h0⟩ | ⟨b,cp,cu,e,-⟩
    ·exact⟨none,0,by rw[e,h0]⟩
    ·exact⟨_,cp,e⟩
   have hlT:((hs++(aS vals nums hs.length x.recs (metFs [] x.frames) k).2).length:Int)=(hs.length:Int)+(J:Int):=by rw[List.length_append,hlenR,hkJ2];simp
   have HB:Hid (Below w.heap.size w wr):=qr.b0;subst hkJ2;have hlE:(hs++(aS vals nums hs.length x.recs (metFs [] x.frames) k).2).length=hs.length+k:=by rw[List.length_append,hlenR]
   by_cases h120:hs.length+k<=120
   ·have h1:¬(120<((hs++(aS vals nums hs.length x.recs (metFs [] x.frames) k).2).length:Int)):=by omega
    have HO:Hid (RbYes vals nums x hs k w wr w4.heap.size w5.heap.size cur5 (.slice qa (hs++(aS vals nums hs.length x.recs (metFs [] x.frames) k).2).length qc) bs):=⟨HSz.out.2,hsz5,hKr.kept HF.out.2.1 ⟨by decide,by decide,by decide⟩,HSz.out.1,fun j hj=>(HF.out.1 j hj).kept (fun g c _ ho=>hKr.kept ho ⟨by decide,by decide,by decide⟩) (fun _ _=>rfl),HF.out.2.2,hRow⟩;clear hRow hMt hKr qr;go_wp2;go_ret2
    exact⟨⟨k,HJ.out,.inl ⟨h120,w4.heap.size,w5.heap.size,cur5,.slice qa (hs.length+k) qc,bs,rfl,by rw[<-hlE];exact HO.out⟩⟩,HB.out⟩
   ·have h1:(120<((hs++(aS vals nums hs.length x.recs (metFs [] x.frames) k).2).length:Int)):=by omega
    clear hRow hMt hKr qr;go_wp2;go_ret2
    exact⟨⟨k,HJ.out,.inr ⟨by omega,rfl⟩⟩,HB.out⟩
end Go.Proofs.YtbjmgmmekmfjhaaGreatDoor
