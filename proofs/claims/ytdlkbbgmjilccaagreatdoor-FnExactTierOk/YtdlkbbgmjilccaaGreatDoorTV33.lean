/- TV33 -/
import Derived.Test.YtdlkbbgmjilccaaGreatDoorTV29
import Derived.Test.YtdlkbbgmjilccaaGreatDoorTV32
set_option maxHeartbeats 32000000
set_option maxRecDepth 100000
namespace Go.Proofs.YtdlkbbgmjilccaaGreatDoor
open Go.RowKit
def NumP (D:aH)(nr:Nat)(s:Sr):Prop:=(s.k=2/\Reg s.n D.vals)\/(s.k=3/\Reg s.n D.nums)\/(s.k=4/\Reg s.n nr)
theorem num2{D:aH}{nr:Nat}{n:Int}{v:Vl}:NumP D nr ⟨2,n,v⟩↔Reg n D.vals:=by simp[NumP]
theorem num3{D:aH}{nr:Nat}{n:Int}{v:Vl}:NumP D nr ⟨3,n,v⟩↔Reg n D.nums:=by simp[NumP]
theorem num4{D:aH}{nr:Nat}{n:Int}{v:Vl}:NumP D nr ⟨4,n,v⟩↔Reg n nr:=by simp[NumP]
theorem src1{nf:Nat}{D:aH}{nr:Nat}{n:Int}{v:Vl}:SrcP nf D nr ⟨1,n,v⟩↔n=0/\valB v.k v.n v.s nf 0=true:=by simp[SrcP]
section
variable {fs:List Fn} {D:aH} {a1 a2 oa ea fa ra:Option Addr} {nt c1 c2 oc ec G base K nfr fc nr rc:Nat} {w:World}
theorem cT{P:Prop}:pB P=true↔P:=⟨fun h=>Classical.byContradiction (fun q=>by rw[aw q] at h;cases h),ay⟩
theorem numberOk_any(s:Sr)(h:Look fs D a1 a2 oa ea nt c1 c2 oc ec G base K w) :
  Calls Tryz.prog 229 #[.agg #[.pointer (some ⟨K,0,none⟩),.slice fa nfr fc,.slice ra nr rc],.agg #[.int .i64 s.k,.int .i64 s.n,.int .i64 s.v.k,.int .i64 s.v.n,.string s.v.s]] w fun e w'=>e=.returned (.bool (pB (NumP D nr s)))/\Below w.heap.size w w':=by
 obtain⟨k,n,vk,vn,vs⟩:=s;dsimp only
 obtain⟨wA,hwA⟩:∃wA,wA=(w.alloc (.cells #[.pointer (some ⟨K,0,none⟩),.slice fa nfr fc,.slice ra nr rc] 308)).alloc (.cells #[.int .i64 k,.int .i64 n,.int .i64 vk,.int .i64 vn,.string vs] 273):=⟨_,rfl⟩;have hbA:Below w.heap.size w wA:=by rw[hwA];exact (gM.alloc nL _).alloc (by simp) _
 have hX:wA.heap[w.heap.size]?=some (.cells #[.pointer (some ⟨K,0,none⟩),.slice fa nfr fc,.slice ra nr rc] 308 (0,0)):=by rw[hwA];exact al (ah _ _ _) _
 have hS:wA.heap[w.heap.size+1]?=some (.cells #[.int .i64 k,.int .i64 n,.int .i64 vk,.int .i64 vn,.string vs] 273 (0,0)):=by rw[hwA];exact ax _ _ _ _ (by simp)
 have hk:=h.mono hbA;have HB:Hid (Below w.heap.size w wA):=hbA;have HS:Hid (∀w',Below wA.heap.size wA w'->w'.cell? ⟨w.heap.size,0,none⟩=some (.pointer (some ⟨K,0,none⟩))/\w'.cell? ⟨w.heap.size,2,none⟩=some (.slice ra nr rc)/\w'.cell? ⟨w.heap.size+1,0,none⟩=some (.int .i64 k)/\w'.cell? ⟨w.heap.size+1,1,none⟩=some (.int .i64 n)/\w'.cell? ⟨K,3,none⟩=some (.int .i64 D.fn)/\w'.cell? ⟨K,4,none⟩=some (.int .i64 D.entry)/\w'.cell? ⟨K,5,none⟩=some (.int .i64 D.vals)/\w'.cell? ⟨K,6,none⟩=some (.int .i64 D.nums)/\w'.cell? ⟨K,7,none⟩=some (.slice oa D.ops.length oc)/\w'.cell? ⟨K,8,none⟩=some (.slice ea D.exits.length ec)):=fun w' q=>⟨aa (ab hX q) 0,aa (ab hX q) 2,aa (ab hS q) 0,aa (ab hS q) 1,(hk.mono q).cells 3,(hk.mono q).cells 4,(hk.mono q).cells 5,(hk.mono q).cells 6,(hk.mono q).cells 7,(hk.mono q).cells 8⟩
 by_cases h2:k=2
 case pos=>
  subst h2;clear hk hX hS h hbA;obtain⟨j0,j1,j2,j3,j4,j5,j6,j7,j8,j9⟩:=HS.out wA gM;go_enter Tryz.func229,Tryz.ntmps229
  go_upto_region 3 with fail
  rw[<-hwA];clear hwA j0 j1 j2 j3 j4 j5 j6 j7 j8 j9;refine au (by kernel_rfl) (by kernel_rfl) ?_
  iterate 7
   refine ae (v:=?_) (by kernel_rfl) ?_ ?_;rotate_left
   ·intro w' hC;obtain⟨j0,j1,j2,j3,j4,j5,j6,j7,j8,j9⟩:=HS.out w' hC;go_simp;try with_reducible rfl
   try simp only[Act.put,sAr,sZe,sSu]
  refine ae (v:=.bool (pB (Reg n D.vals))) (by kernel_rfl) ?_ ?_
  ·intro w' hC;go_simp;refine (isInV_any oa ea oc ec D n _).mono ?_;rintro e w'' ⟨rfl,hb2⟩;exact⟨rfl,hC.trans (hb2.mono hC.size)⟩
  try simp only[Act.put,sAr,sZe,sSu]
  refine ae (v:=?_) (by kernel_rfl) ?_ ?_;rotate_left
  ·intro w' hC;obtain⟨j0,j1,j2,j3,j4,j5,j6,j7,j8,j9⟩:=HS.out w' hC;go_simp;try with_reducible rfl
  try simp only[Act.put,sAr,sZe,sSu]
  refine wpQuiet_nil ?_;intro w2 q2;go_wp2;go_ret
  exact⟨bx (by rw[cT];exact num2.symm),HB.out.trans (q2.mono HB.out.size)⟩
 have g2:(k == 2)=false:=by simpa using h2
 by_cases h3:k=3
 case pos=>
  subst h3;clear hk hX hS h hbA;obtain⟨j0,j1,j2,j3,j4,j5,j6,j7,j8,j9⟩:=HS.out wA gM;go_enter Tryz.func229,Tryz.ntmps229
  go_upto_region 5 with fail
  rw[<-hwA];clear hwA j0 j1 j2 j3 j4 j5 j6 j7 j8 j9;refine au (by kernel_rfl) (by kernel_rfl) ?_
  iterate 7
   refine ae (v:=?_) (by kernel_rfl) ?_ ?_;rotate_left
   ·intro w' hC;obtain⟨j0,j1,j2,j3,j4,j5,j6,j7,j8,j9⟩:=HS.out w' hC;go_simp;try with_reducible rfl
   try simp only[Act.put,sAr,sZe,sSu]
  refine ae (v:=.bool (pB (Reg n D.nums))) (by kernel_rfl) ?_ ?_
  ·intro w' hC;go_simp;refine (isInN_any oa ea oc ec D n _).mono ?_;rintro e w'' ⟨rfl,hb2⟩;exact⟨rfl,hC.trans (hb2.mono hC.size)⟩
  try simp only[Act.put,sAr,sZe,sSu]
  refine ae (v:=?_) (by kernel_rfl) ?_ ?_;rotate_left
  ·intro w' hC;obtain⟨j0,j1,j2,j3,j4,j5,j6,j7,j8,j9⟩:=HS.out w' hC;go_simp;try with_reducible rfl
  try simp only[Act.put,sAr,sZe,sSu]
  refine wpQuiet_nil ?_;intro w2 q2;go_wp2;go_ret
  exact⟨bx (by rw[cT];exact num3.symm),HB.out.trans (q2.mono HB.out.size)⟩
 have g3:(k == 3)=false:=by simpa using h3
 by_cases h4:k=4
 case pos=>
  subst h4;clear hk hX hS h hbA;obtain⟨j0,j1,j2,j3,j4,j5,j6,j7,j8,j9⟩:=HS.out wA gM;go_enter Tryz.func229,Tryz.ntmps229
  go_upto_region 7 with fail
  rw[<-hwA];clear hwA;go_wp2_with (go_at_call 231;refine (hasExRec_any _ _ _ _ _).mono ?_;rintro e w1 ⟨rfl,hw⟩;rw[hw];clear hw w1)
  go_ret
  exact⟨bx (by rw[cT];exact num4.symm),HB.out⟩
 have g4:(k == 4)=false:=by simpa using h4
 have HN:Hid (¬NumP D nr ⟨k,n,vk,vn,vs⟩):=fun q=>by
  rcases q with q | q | q
  ·exact h2 q.1
  ·exact h3 q.1
  ·exact h4 q.1
 clear hk hX hS h hbA h2 h3 h4;obtain⟨j0,j1,j2,j3,j4,j5,j6,j7,j8,j9⟩:=HS.out wA gM;go_enter Tryz.func229,Tryz.ntmps229
 go_upto_region 8 with fail
 rw[<-hwA];clear hwA;go_wp2;go_ret
 exact⟨aj (aw HN.out).symm,HB.out⟩
theorem sourceOk_any(i:Int)(s:Sr)(hs:s.v.s.size<=1048576)(h:Look fs D a1 a2 oa ea nt c1 c2 oc ec G base K w) :
  Calls Tryz.prog 225 #[.agg #[.pointer (some ⟨K,0,none⟩),.slice fa nfr fc,.slice ra nr rc],.int .i64 i,.agg #[.int .i64 s.k,.int .i64 s.n,.int .i64 s.v.k,.int .i64 s.v.n,.string s.v.s]] w fun e w'=>e=.returned (.bool (pB (SrcP fs.length D nr s)))/\Below w.heap.size w w':=by
 obtain⟨k,n,vk,vn,vs⟩:=s;dsimp only at hs ⊢
 obtain⟨wA,hwA⟩:∃wA,wA=(w.alloc (.cells #[.pointer (some ⟨K,0,none⟩),.slice fa nfr fc,.slice ra nr rc] 308)).alloc (.cells #[.int .i64 k,.int .i64 n,.int .i64 vk,.int .i64 vn,.string vs] 273):=⟨_,rfl⟩;have hbA:Below w.heap.size w wA:=by rw[hwA];exact (gM.alloc nL _).alloc (by simp) _
 have hX:wA.heap[w.heap.size]?=some (.cells #[.pointer (some ⟨K,0,none⟩),.slice fa nfr fc,.slice ra nr rc] 308 (0,0)):=by rw[hwA];exact al (ah _ _ _) _
 have hS:wA.heap[w.heap.size+1]?=some (.cells #[.int .i64 k,.int .i64 n,.int .i64 vk,.int .i64 vn,.string vs] 273 (0,0)):=by rw[hwA];exact ax _ _ _ _ (by simp)
 have hk:=h.mono hbA;have HB:Hid (Below w.heap.size w wA):=hbA;have HS:Hid (∀w',Below wA.heap.size wA w'->w'.cell? ⟨w.heap.size,0,none⟩=some (.pointer (some ⟨K,0,none⟩))/\w'.cell? ⟨w.heap.size,1,none⟩=some (.slice fa nfr fc)/\w'.cell? ⟨w.heap.size,2,none⟩=some (.slice ra nr rc)/\w'.cell? ⟨w.heap.size+1,0,none⟩=some (.int .i64 k)/\w'.cell? ⟨w.heap.size+1,1,none⟩=some (.int .i64 n)/\w'.cell? ⟨w.heap.size+1,2,none⟩=some (.int .i64 vk)/\w'.cell? ⟨w.heap.size+1,3,none⟩=some (.int .i64 vn)/\w'.cell? ⟨w.heap.size+1,4,none⟩=some (.string vs)/\w'.cell? ⟨K,0,none⟩=some (.slice a1 nt c1)/\w'.cell? ⟨K,1,none⟩=some (.slice a2 fs.length c2)):=fun w' q=>⟨aa (ab hX q) 0,aa (ab hX q) 1,aa (ab hX q) 2,aa (ab hS q) 0,aa (ab hS q) 1,aa (ab hS q) 2,aa (ab hS q) 3,aa (ab hS q) 4,(hk.mono q).cells 0,(hk.mono q).cells 1⟩
 by_cases h1:k=1
 case pos=>
  subst h1;by_cases hn0:n=0
  case neg=>
   have g0:(n == 0)=false:=by simpa using hn0
   have HN:Hid (¬n=0):=hn0;clear hk hX hS h hbA hn0;obtain⟨j0,j1,j2,j3,j4,j5,j6,j7,j8,j9⟩:=HS.out wA gM;go_enter Tryz.func225,Tryz.ntmps225
   go_upto_region 2 with fail
   rw[<-hwA];clear hwA j0 j1 j2 j3 j4 j5 j6 j7 j8 j9;refine au (by kernel_rfl) (by kernel_rfl) ?_
   iterate 4
    refine ae (v:=?_) (by kernel_rfl) ?_ ?_;rotate_left
    ·intro w' hC;obtain⟨j0,j1,j2,j3,j4,j5,j6,j7,j8,j9⟩:=HS.out w' hC;go_simp;try with_reducible rfl
    try simp only[Act.put,sAr,sZe,sSu]
   iterate 8 go_big_quiet_skip
   iterate 2
    refine ae (v:=?_) (by kernel_rfl) ?_ ?_;rotate_left
    ·intro w' hC;obtain⟨j0,j1,j2,j3,j4,j5,j6,j7,j8,j9⟩:=HS.out w' hC;go_simp;try with_reducible rfl
    try simp only[Act.put,sAr,sZe,sSu]
   refine wpQuiet_nil ?_;intro w2 q2;go_wp2;go_ret
   exact⟨aj (aw (fun q=>HN.out (src1.1 q).1)).symm,HB.out.trans (q2.mono HB.out.size)⟩
  subst hn0;clear hk hX hS h hbA;obtain⟨j0,j1,j2,j3,j4,j5,j6,j7,j8,j9⟩:=HS.out wA gM;go_enter Tryz.func225,Tryz.ntmps225
  go_upto_region 2 with fail
  rw[<-hwA];clear hwA j0 j1 j2 j3 j4 j5 j6 j7 j8 j9;refine au (by kernel_rfl) (by kernel_rfl) ?_
  iterate 11
   refine ae (v:=?_) (by kernel_rfl) ?_ ?_;rotate_left
   ·intro w' hC;obtain⟨j0,j1,j2,j3,j4,j5,j6,j7,j8,j9⟩:=HS.out w' hC;go_simp;try with_reducible rfl
   try simp only[Act.put,sAr,sZe,sSu]
  refine ae (v:=.bool (valB vk vn vs fs.length 0)) (by kernel_rfl) ?_ ?_
  ·intro w' hC;go_simp;refine (er vk vn vs 0 _ _ _ _ fs.length _ _ hs).mono ?_;rintro e w'' ⟨rfl,hb2⟩;exact⟨rfl,hC.trans (hb2.mono hC.size)⟩
  try simp only[Act.put,sAr,sZe,sSu]
  iterate 2
   refine ae (v:=?_) (by kernel_rfl) ?_ ?_;rotate_left
   ·intro w' hC;obtain⟨j0,j1,j2,j3,j4,j5,j6,j7,j8,j9⟩:=HS.out w' hC;go_simp;try with_reducible rfl
   try simp only[Act.put,sAr,sZe,sSu]
  refine wpQuiet_nil ?_;intro w2 q2;go_wp2;go_ret
  exact⟨bx ⟨fun q=>src1.2 ⟨rfl,q⟩,fun q=>(src1.1 q).2⟩,HB.out.trans (q2.mono HB.out.size)⟩
 have g1:(k == 1)=false:=by simpa using h1
 have HI:Hid (SrcP fs.length D nr ⟨k,n,vk,vn,vs⟩↔(⟨vk,vn,vs⟩:Vl)=zeroV/\NumP D nr ⟨k,n,vk,vn,vs⟩):=
  ⟨fun q=>q.elim (fun q=>absurd q.1 h1) id,.inr⟩
 have g36:=guard36;have e36:=fP ⟨vk,vn,vs⟩ zeroV;unfold zeroV at e36;dsimp only at e36
 have HK:Hid (Look fs D a1 a2 oa ea nt c1 c2 oc ec G base K wA):=hk;clear hk hX hS h hbA h1;obtain⟨j0,j1,j2,j3,j4,j5,j6,j7,j8,j9⟩:=HS.out wA gM;by_cases hz:(⟨vk,vn,vs⟩:Vl)=zeroV
 case neg=>
  have HN:Hid (¬(⟨vk,vn,vs⟩:Vl)=zeroV):=hz;have hz':¬(⟨vk,vn,vs⟩:Vl)=⟨0,0,⟨#[]⟩⟩:=hz;rw[aw hz'] at e36;clear hz hz';go_enter Tryz.func225,Tryz.ntmps225
  go_upto_region 3 with fail
  rw[<-hwA];clear hwA;go_wp2;go_ret
  exact⟨aj (aw (fun q=>HN.out (HI.out.1 q).1)).symm,HB.out⟩
 have HZ:Hid ((⟨vk,vn,vs⟩:Vl)=zeroV):=hz;have hz':(⟨vk,vn,vs⟩:Vl)=⟨0,0,⟨#[]⟩⟩:=hz;rw[ay hz'] at e36;clear hz hz';go_enter Tryz.func225,Tryz.ntmps225
 go_upto_region 3 with fail
 rw[<-hwA];clear hwA;go_wp2_with fail
 refine (numberOk_any (fa:=fa) (ra:=ra) (nfr:=nfr) (fc:=fc) (nr:=nr) (rc:=rc) ⟨k,n,vk,vn,vs⟩ HK.out).mono ?_;rintro e w1 ⟨rfl,hb1⟩;go_wp2;go_ret
 exact⟨bx (by rw[cT,HI.out];exact⟨fun q=>⟨HZ.out,q⟩,fun q=>q.2⟩),HB.out.trans (hb1.mono HB.out.size)⟩
theorem cQ(a:Option Addr)(l:List Sr)(cap:Nat)(hl:aU bC l)(hm:bq w 0 a l)(h:Look fs D a1 a2 oa ea nt c1 c2 oc ec G base K w) :
  Calls Tryz.prog 215 #[.agg #[.pointer (some ⟨K,0,none⟩),.slice fa nfr fc,.slice ra nr rc],.slice a l.length cap] w fun e w'=>e=.returned (.bool (pB (dX fs.length D nr l)))/\Below w.heap.size w w':=by
 have hbA:Below w.heap.size w (w.alloc (.cells #[.pointer (some ⟨K,0,none⟩),.slice fa nfr fc,.slice ra nr rc] 308)):=gM.alloc nL _;have hk:=h.mono hbA;go_enter Tryz.func215,Tryz.ntmps215
 go_wp2_with fail
 refine (allSrc_any (.agg #[.pointer (some ⟨K,0,none⟩),.slice fa nfr fc,.slice ra nr rc]) (fun _ s=>SrcP fs.length D nr s) a l cap _ hl.1 (hm.mono hbA) (fun i hi w' q=>sourceOk_any _ _ (hl.2 _ (n_l hi)) (hk.mono q))).mono ?_;rintro e w1 ⟨rfl,hb1⟩;go_wp2;go_ret
 exact⟨rfl,hbA.trans (hb1.mono hbA.size)⟩
theorem recOk_any(i:Int)(x:ER)(a:Option Addr)(cap:Nat)(hl:aU bC x.fields)(hm:bq w 0 a x.fields)(h:Look fs D a1 a2 oa ea nt c1 c2 oc ec G base K w) :
  Calls Tryz.prog 194 #[.agg #[.pointer (some ⟨K,0,none⟩),.slice fa nfr fc,.slice ra nr rc],.int .i64 i,.agg #[.slice a x.fields.length cap]] w fun e w'=>e=.returned (.bool (pB (fw fs.length D nr x)))/\Below w.heap.size w w':=by
 have hbA:Below w.heap.size w ((w.alloc (.cells #[.pointer (some ⟨K,0,none⟩),.slice fa nfr fc,.slice ra nr rc] 308)).alloc (.cells #[.slice a x.fields.length cap] 230)):=(gM.alloc nL _).alloc (by simp) _;have hk:=h.mono hbA;have hmA:=hm.mono hbA;by_cases h6:x.fields.length<=6
 case neg=>
  have h6':¬(x.fields.length:Int)<=6:=by omega
  go_enter Tryz.func194,Tryz.ntmps194
  go_wp2;go_ret
  exact⟨aj (aw (fun q=>absurd q.1 h6)).symm,hbA⟩
 have h6':(x.fields.length:Int)<=6:=by omega
 go_enter Tryz.func194,Tryz.ntmps194
 go_wp2_with fail
 refine (cQ (fa:=fa) (ra:=ra) (nfr:=nfr) (fc:=fc) (nr:=nr) (rc:=rc) a x.fields cap hl hmA hk).mono ?_;rintro e w1 ⟨rfl,hb1⟩;go_wp2;go_ret
 exact⟨bx (by rw[cT];exact⟨fun q=>⟨h6,q⟩,fun q=>q.2⟩),hbA.trans (hb1.mono hbA.size)⟩
end
theorem Says.pB{P:Prop}{e:Ending}(h:Says P e):e=.returned (.bool (pB P)):=by
 obtain⟨b,rfl,hb⟩:=h;exact bx hb
theorem specs_one{fs:List Fn}{s:Si}:fL fs [s]↔cK fs s:=
 ⟨fun h=>h.1 0 (by simp),fun h=>⟨fun i hi=>by
                           obtain rfl:i=0:=by simpa using hi
                           exact h,fun i hi h0=>by simp at hi;omega⟩⟩
section
variable {fs:List Fn} {D:aH} {a1 a2 oa ea fa ra:Option Addr} {nt c1 c2 oc ec G base K nfr fc nr rc:Nat} {w:World}
theorem fitsB_any(f pc nl ns:Int)(last:Bool)(h:Look fs D a1 a2 oa ea nt c1 c2 oc ec G base K w)(lim:Lim fs D) :
  Calls Tryz.prog 106 #[.agg #[.slice a1 nt c1,.slice a2 fs.length c2],.slice (some ⟨G,0,none⟩) fs.length fs.length,.int .i64 f,.int .i64 pc,.int .i64 nl,.int .i64 ns,.bool last] w fun e w'=>e=.returned (.bool (pB (Fits fs f pc nl ns last)))/\Below w.heap.size w w':=
 (fk a1 a2 nt c1 c2 fs base G f pc nl ns last w h.fns h.hts lim.fine).mono fun _ _ q=>⟨q.1.pB,q.2⟩
theorem guessOk_any(x:Ex)(h:Look fs D a1 a2 oa ea nt c1 c2 oc ec G base K w)(lim:Lim fs D) :
  Calls Tryz.prog 190 #[.pointer (some ⟨K,0,none⟩),.agg #[.int .i64 x.kind,.int .i64 x.spec.f,.int .i64 x.spec.pc,.int .i64 x.spec.seen,.int .i64 x.spec.target,.slice fa x.frames.length fc,.slice ra x.recs.length rc]] w fun e w'=>e=.returned (.bool (pB (cj fs x)))/\Below w.heap.size w w':=by
 obtain⟨wA,hwA⟩:∃wA,wA=w.alloc (.cells #[.int .i64 x.kind,.int .i64 x.spec.f,.int .i64 x.spec.pc,.int .i64 x.spec.seen,.int .i64 x.spec.target,.slice fa x.frames.length fc,.slice ra x.recs.length rc] 175):=⟨_,rfl⟩;have hbA:Below w.heap.size w wA:=by rw[hwA];exact gM.alloc nL _
 have hX:wA.heap[w.heap.size]?=some (.cells #[.int .i64 x.kind,.int .i64 x.spec.f,.int .i64 x.spec.pc,.int .i64 x.spec.seen,.int .i64 x.spec.target,.slice fa x.frames.length fc,.slice ra x.recs.length rc] 175 (0,0)):=by rw[hwA];exact ah _ _ _
 have hk:=h.mono hbA;have HB:Hid (Below w.heap.size w wA):=hbA;have x0:=aa hX;by_cases h2:x.kind=2
 case neg=>
  have g2:(x.kind != 2)=true:=by simpa using h2
  have HK2:Hid (¬x.kind=2):=h2;have g44:=guard44;have e44:=fN x.spec zeroS;unfold zeroS at e44;dsimp only at e44
  clear h2 hk hX h hbA;go_enter Tryz.func190,Tryz.ntmps190
  go_upto_region 2 with fail
  rw[<-hwA];clear hwA;go_wp2;go_ret
  exact⟨bx (by rw[cT];exact⟨fun q=>.inr ⟨HK2.out,q⟩,fun q=>q.elim (fun q=>absurd q.1 HK2.out) (fun q=>q.2)⟩),HB.out⟩
 have g2:(x.kind != 2)=false:=by simpa using h2
 have HK2:Hid (x.kind=2):=h2;have HS:Hid (∀w',Below wA.heap.size wA w'->w'.cell? ⟨K,0,none⟩=some (.slice a1 nt c1)/\w'.cell? ⟨K,1,none⟩=some (.slice a2 fs.length c2)/\w'.cell? ⟨w.heap.size,1,none⟩=some (.int .i64 x.spec.f)/\w'.cell? ⟨w.heap.size,2,none⟩=some (.int .i64 x.spec.pc)/\w'.cell? ⟨w.heap.size,3,none⟩=some (.int .i64 x.spec.seen)/\w'.cell? ⟨w.heap.size,4,none⟩=some (.int .i64 x.spec.target)):=fun w' q=>⟨(hk.mono q).cells 0,(hk.mono q).cells 1,aa (ab hX q) 1,aa (ab hX q) 2,aa (ab hX q) 3,aa (ab hX q) 4⟩
 have HC:Hid (∀g w',Below wA.heap.size wA w'->w'.heap[g]?=some (.cells #[.int .i64 x.spec.f,.int .i64 x.spec.pc,.int .i64 x.spec.seen,.int .i64 x.spec.target] 171 (0,0))->Calls Tryz.prog 214 #[.agg #[.slice a1 nt c1,.slice a2 fs.length c2],.slice (some ⟨g,0,none⟩) 1 1] w' fun e w''=>e=.returned (.bool (pB (cK fs x.spec)))/\Below w'.heap.size w' w''):=fun g w' q hg=>by
  have:=specsOk_any a1 a2 nt c1 c2 fs (some ⟨g,0,none⟩) 1 [x.spec] w' (by simp) lim.code (hk.fns.mono q) (fun i hi=>by
   obtain rfl:i=0:=by simpa using hi
   exact⟨g,0,rfl,Nat.zero_le _,aa hg 0,aa hg 1,aa hg 2,aa hg 3⟩)
  rwa [show pB (fL fs [x.spec])=pB (cK fs x.spec) by rw[show fL fs [x.spec]=cK fs x.spec from propext specs_one]] at this
 obtain⟨j0,j1,j2,j3,j4,j5⟩:=HS.out wA gM;have q:Below wA.heap.size wA wA.drew:=gM.drew;clear h2 hk hX h hbA;go_enter Tryz.func190,Tryz.ntmps190
 go_upto_region 3 with fail
 rw[<-hwA];clear hwA x0
 go_region_held3 (fun w'=>w'.cell? ⟨K,0,none⟩=some (.slice a1 nt c1)/\w'.cell? ⟨K,1,none⟩=some (.slice a2 fs.length c2)/\w'.cell? ⟨w.heap.size,1,none⟩=some (.int .i64 x.spec.f)/\w'.cell? ⟨w.heap.size,2,none⟩=some (.int .i64 x.spec.pc)/\w'.cell? ⟨w.heap.size,3,none⟩=some (.int .i64 x.spec.seen)/\w'.cell? ⟨w.heap.size,4,none⟩=some (.int .i64 x.spec.target))
  (first
   | exact⟨j0,j1,j2,j3,j4,j5⟩
   | exact HS.out _ q
   | exact HS.out _ (q.alloc q.size _))
  (first
   | (go_at_call 214;refine (HC.out _ _ (by first | exact q.alloc q.size _ | exact gM.alloc nL _ | exact (gM.alloc nL _).drew) (by first | exact ah _ _ _ | exact aY _ _ _)).mono ?_;rintro e wb ⟨rfl,kd⟩;have q:=(q.alloc q.size (.cells #[.int .i64 x.spec.f,.int .i64 x.spec.pc,.int .i64 x.spec.seen,.int .i64 x.spec.target] 171)).trans (kd.mono (by have:=q.size;simp<;>omega))))
 all_goals
  go_wp2;go_ret
  exact⟨bx (by rw[cT];exact⟨fun q=>.inl ⟨HK2.out,q⟩,fun q=>q.elim (fun q=>q.2) (fun q=>absurd HK2.out q.1)⟩),HB.out.trans (q.mono HB.out.size)⟩
end
theorem src2{nf:Nat}{D:aH}{nr:Nat}{n:Int}{v:Vl}:SrcP nf D nr ⟨2,n,v⟩↔v=zeroV/\Reg n D.vals:=by simp[SrcP]
theorem src3{nf:Nat}{D:aH}{nr:Nat}{n:Int}{v:Vl}:SrcP nf D nr ⟨3,n,v⟩↔v=zeroV/\Reg n D.nums:=by simp[SrcP]
theorem src4{nf:Nat}{D:aH}{nr:Nat}{n:Int}{v:Vl}:SrcP nf D nr ⟨4,n,v⟩↔v=zeroV/\Reg n nr:=by simp[SrcP]
theorem srcNo{nf:Nat}{D:aH}{nr:Nat}{k n:Int}{v:Vl}(h1:¬k=1)(h2:¬k=2)(h3:¬k=3)(h4:¬k=4):¬SrcP nf D nr ⟨k,n,v⟩:=by simp[SrcP,h1,h2,h3,h4]
section
variable {fs:List Fn} {a1 a2 oa ea:Option Addr} {nt c1 c2 oc ec K:Nat} {D:aH} {wK w:World} {b:Bool}
theorem kSrc1(n vk vn:Int)(vs:ByteArray)(nr:Nat)(hs:vs.size<=1048576)(l:SLim fs D K wK a2 oa ea)(h:Chk a1 a2 oa ea nt c1 c2 oc ec fs.length K D wK b w) :
  Calls Tryz.prog 173 #[.pointer (some ⟨K,0,none⟩),.agg #[.int .i64 1,.int .i64 n,.int .i64 vk,.int .i64 vn,.string vs],.int .i64 (nr:Nat)] w fun e w'=>e=.returned (.tuple #[])/\Chk a1 a2 oa ea nt c1 c2 oc ec fs.length K D wK (b || !pB (SrcP fs.length D nr ⟨1,n,vk,vn,vs⟩)) w'/\Rk K w w':=by
 have hwk:K<w.heap.size:=aq h.blk;have hne:w.heap.size≠K:=by omega
 obtain⟨wA,hwA⟩:∃wA,wA=w.alloc (.cells #[.int .i64 1,.int .i64 n,.int .i64 vk,.int .i64 vn,.string vs] 273):=⟨_,rfl⟩;have hbA:Below w.heap.size w wA:=by rw[hwA];exact gM.alloc nL _
 have hX1:wA.heap[w.heap.size]?=some (.cells #[.int .i64 1,.int .i64 n,.int .i64 vk,.int .i64 vn,.string vs] 273 (0,0)):=by rw[hwA];exact ah _ _ _
 have hC1:=h.mono hbA;have R1:Rk K w wA:=Rk.of hbA;have x0:=aa (ah w #[.int .i64 1,.int .i64 n,.int .i64 vk,.int .i64 vn,.string vs] 273);have x1:=aa hX1;clear h hbA;go_enter Tryz.func173,Tryz.ntmps173
 go_wp2_with fail
 rw[<-hwA];clear hwA x0;refine (aD n hC1).mono ?_;rintro e w11 ⟨rfl,hC2,hr⟩;have hX2:=ak hX1 hne hr;have R2:=R1.trans hr;clear x1 hX1 R1 hC1 hr;have x2:=aa hX2;go_wp2_with fail
 have hnf:=l.nf;have HC:Hid (Chk a1 a2 oa ea nt c1 c2 oc ec fs.length K D wK _ w11):=hC2;have HXX:=hX2;have HS:Hid (∀w',Below w11.heap.size w11 w'->w'.cell? ⟨K,0,none⟩=some (.slice a1 nt c1)/\w'.cell? ⟨K,1,none⟩=some (.slice a2 fs.length c2)/\w'.cell? ⟨w.heap.size,2,none⟩=some (.int .i64 vk)/\w'.cell? ⟨w.heap.size,3,none⟩=some (.int .i64 vn)/\w'.cell? ⟨w.heap.size,4,none⟩=some (.string vs)):=fun w' q=>⟨(HC.out.mono q).cells 0,(HC.out.mono q).cells 1,aa (ab HXX q) 2,aa (ab HXX q) 3,aa (ab HXX q) 4⟩
 obtain⟨j0,j1,j2,j3,j4⟩:=HS.out _ gM;have q:Below w11.heap.size w11 w11.drew:=gM.drew;clear x2 hC2
 go_region_held3 (fun w'=>w'.cell? ⟨K,0,none⟩=some (.slice a1 nt c1)/\w'.cell? ⟨K,1,none⟩=some (.slice a2 fs.length c2)/\w'.cell? ⟨w.heap.size,2,none⟩=some (.int .i64 vk)/\w'.cell? ⟨w.heap.size,3,none⟩=some (.int .i64 vn)/\w'.cell? ⟨w.heap.size,4,none⟩=some (.string vs))
  (first | exact⟨j0,j1,j2,j3,j4⟩ | exact HS.out _ q | exact⟨hc.cells 0,hc.cells 1,aa (ak (ab HXX q) hne hr) 2,aa (ak (ab HXX q) hne hr) 3,aa (ak (ab HXX q) hne hr) 4⟩)
  (first
   | (go_at_call 86;refine (dP vk vn vs 0 _ _ _ _ fs.length _ _ hnf hs).mono ?_;rintro e wz ⟨rfl,kd⟩;have q:=q.trans (kd.mono q.size))
   | (go_at_call 136;refine (bN _ (HC.out.mono q)).mono ?_;rintro e wy ⟨rfl,hc,hr⟩))
 have hC3:Chk a1 a2 oa ea nt c1 c2 oc ec fs.length K D wK ((b || !pB (n=0)) || !pB (valB vk vn vs fs.length 0=true)) wy:=by
  rw[show pB (valB vk vn vs fs.length 0=true)=valB vk vn vs fs.length 0 by simp[pB]]
  exact hc
 have R3:=(R2.trans (Rk.of q)).trans hr;clear HS HC j0 j1 j2 j3 j4;go_wp2;go_end0
 exact⟨rfl,hC3.both.iff (src1 (v:=⟨vk,vn,vs⟩)).symm,R3⟩
theorem kSrc2(n vk vn:Int)(vs:ByteArray)(nr:Nat)(l:SLim fs D K wK a2 oa ea)(h:Chk a1 a2 oa ea nt c1 c2 oc ec fs.length K D wK b w) :
  Calls Tryz.prog 173 #[.pointer (some ⟨K,0,none⟩),.agg #[.int .i64 2,.int .i64 n,.int .i64 vk,.int .i64 vn,.string vs],.int .i64 (nr:Nat)] w fun e w'=>e=.returned (.tuple #[])/\Chk a1 a2 oa ea nt c1 c2 oc ec fs.length K D wK (b || !pB (SrcP fs.length D nr ⟨2,n,vk,vn,vs⟩)) w'/\Rk K w w':=by
 have hwk:K<w.heap.size:=aq h.blk;have hne:w.heap.size≠K:=by omega
 obtain⟨wA,hwA⟩:∃wA,wA=w.alloc (.cells #[.int .i64 2,.int .i64 n,.int .i64 vk,.int .i64 vn,.string vs] 273):=⟨_,rfl⟩;have hbA:Below w.heap.size w wA:=by rw[hwA];exact gM.alloc nL _
 have hX1:wA.heap[w.heap.size]?=some (.cells #[.int .i64 2,.int .i64 n,.int .i64 vk,.int .i64 vn,.string vs] 273 (0,0)):=by rw[hwA];exact ah _ _ _
 have hC1:=h.mono hbA;have R1:Rk K w wA:=Rk.of hbA;have x0:=aa (ah w #[.int .i64 2,.int .i64 n,.int .i64 vk,.int .i64 vn,.string vs] 273);have x1:=aa hX1;clear h hbA;go_enter Tryz.func173,Tryz.ntmps173
 go_wp2_with fail
 rw[<-hwA];clear hwA x0;refine (aJ ⟨vk,vn,vs⟩ hC1).mono ?_;rintro e w11 ⟨rfl,hC2,hr⟩;have hX2:=ak hX1 hne hr;have R2:=R1.trans hr;clear x1 hX1 R1 hC1 hr;have x2:=aa hX2;go_wp2_with fail
 refine (aN n l.vals hC2).mono ?_;rintro e w12 ⟨rfl,hC3,hr⟩;have hX3:=ak hX2 hne hr;have R3:=R2.trans hr;clear x2 hX2 R2 hC2 hr;have x3:=aa hX3;go_wp2;go_end0
 exact⟨rfl,hC3.both.iff src2.symm,R3⟩
theorem kSrc3(n vk vn:Int)(vs:ByteArray)(nr:Nat)(l:SLim fs D K wK a2 oa ea)(h:Chk a1 a2 oa ea nt c1 c2 oc ec fs.length K D wK b w) :
  Calls Tryz.prog 173 #[.pointer (some ⟨K,0,none⟩),.agg #[.int .i64 3,.int .i64 n,.int .i64 vk,.int .i64 vn,.string vs],.int .i64 (nr:Nat)] w fun e w'=>e=.returned (.tuple #[])/\Chk a1 a2 oa ea nt c1 c2 oc ec fs.length K D wK (b || !pB (SrcP fs.length D nr ⟨3,n,vk,vn,vs⟩)) w'/\Rk K w w':=by
 have hwk:K<w.heap.size:=aq h.blk;have hne:w.heap.size≠K:=by omega
 obtain⟨wA,hwA⟩:∃wA,wA=w.alloc (.cells #[.int .i64 3,.int .i64 n,.int .i64 vk,.int .i64 vn,.string vs] 273):=⟨_,rfl⟩;have hbA:Below w.heap.size w wA:=by rw[hwA];exact gM.alloc nL _
 have hX1:wA.heap[w.heap.size]?=some (.cells #[.int .i64 3,.int .i64 n,.int .i64 vk,.int .i64 vn,.string vs] 273 (0,0)):=by rw[hwA];exact ah _ _ _
 have hC1:=h.mono hbA;have R1:Rk K w wA:=Rk.of hbA;have x0:=aa (ah w #[.int .i64 3,.int .i64 n,.int .i64 vk,.int .i64 vn,.string vs] 273);have x1:=aa hX1;clear h hbA;go_enter Tryz.func173,Tryz.ntmps173
 go_wp2_with fail
 rw[<-hwA];clear hwA x0;refine (aJ ⟨vk,vn,vs⟩ hC1).mono ?_;rintro e w11 ⟨rfl,hC2,hr⟩;have hX2:=ak hX1 hne hr;have R2:=R1.trans hr;clear x1 hX1 R1 hC1 hr;have x2:=aa hX2;go_wp2_with fail
 refine (bm n l.nums hC2).mono ?_;rintro e w12 ⟨rfl,hC3,hr⟩;have hX3:=ak hX2 hne hr;have R3:=R2.trans hr;clear x2 hX2 R2 hC2 hr;have x3:=aa hX3;go_wp2;go_end0
 exact⟨rfl,hC3.both.iff src3.symm,R3⟩
theorem kSrc4(n vk vn:Int)(vs:ByteArray)(nr:Nat)(h:Chk a1 a2 oa ea nt c1 c2 oc ec fs.length K D wK b w) :
  Calls Tryz.prog 173 #[.pointer (some ⟨K,0,none⟩),.agg #[.int .i64 4,.int .i64 n,.int .i64 vk,.int .i64 vn,.string vs],.int .i64 (nr:Nat)] w fun e w'=>e=.returned (.tuple #[])/\Chk a1 a2 oa ea nt c1 c2 oc ec fs.length K D wK (b || !pB (SrcP fs.length D nr ⟨4,n,vk,vn,vs⟩)) w'/\Rk K w w':=by
 have hwk:K<w.heap.size:=aq h.blk;have hne:w.heap.size≠K:=by omega
 obtain⟨wA,hwA⟩:∃wA,wA=w.alloc (.cells #[.int .i64 4,.int .i64 n,.int .i64 vk,.int .i64 vn,.string vs] 273):=⟨_,rfl⟩;have hbA:Below w.heap.size w wA:=by rw[hwA];exact gM.alloc nL _
 have hX1:wA.heap[w.heap.size]?=some (.cells #[.int .i64 4,.int .i64 n,.int .i64 vk,.int .i64 vn,.string vs] 273 (0,0)):=by rw[hwA];exact ah _ _ _
 have hC1:=h.mono hbA;have R1:Rk K w wA:=Rk.of hbA;have x0:=aa (ah w #[.int .i64 4,.int .i64 n,.int .i64 vk,.int .i64 vn,.string vs] 273);have x1:=aa hX1;clear h hbA;by_cases hp:Reg n nr
 case pos=>
  have g1:(0:Int)<=n:=hp.1;have g2:n<(nr:Int):=hp.2;have HP:Hid (Reg n nr):=hp;clear hp;go_enter Tryz.func173,Tryz.ntmps173
  go_wp2_with fail
  rw[<-hwA];clear hwA x0;refine (aJ ⟨vk,vn,vs⟩ hC1).mono ?_;rintro e w11 ⟨rfl,hC2,hr⟩;have hX2:=ak hX1 hne hr;have R2:=R1.trans hr;clear x1 hX1 R1 hC1 hr;have x2:=aa hX2;go_wp2_with fail
  refine (bN true hC2).mono ?_;rintro e w20 ⟨rfl,hc,hr⟩;clear x2;go_wp2;go_end0
  refine⟨rfl,?_,R2.trans hr⟩;rw[dY (src4 (nf:=fs.length) (D:=D) (nr:=nr) (n:=n) (v:=⟨vk,vn,vs⟩)),eB,ay HP.out];simpa using hc
 have HP:Hid (¬Reg n nr):=hp;by_cases g1:(0:Int)<=n
 case pos=>
  have g2:¬n<(nr:Int):=fun q=>hp ⟨g1,q⟩
  clear hp;go_enter Tryz.func173,Tryz.ntmps173
  go_wp2_with fail
  rw[<-hwA];clear hwA x0;refine (aJ ⟨vk,vn,vs⟩ hC1).mono ?_;rintro e w11 ⟨rfl,hC2,hr⟩;have hX2:=ak hX1 hne hr;have R2:=R1.trans hr;clear x1 hX1 R1 hC1 hr;have x2:=aa hX2;go_wp2_with fail
  (try rw[show decide (n<(nr:Int))=false by simp;omega])
  refine (bN false hC2).mono ?_;rintro e w20 ⟨rfl,hc,hr⟩;clear x2;go_wp2;go_end0
  refine⟨rfl,?_,R2.trans hr⟩;rw[aw (fun q=>HP.out (src4.1 q).2)];simpa using hc
 case neg=>
  clear hp;go_enter Tryz.func173,Tryz.ntmps173
  go_wp2_with fail
  rw[<-hwA];clear hwA x0;refine (aJ ⟨vk,vn,vs⟩ hC1).mono ?_;rintro e w11 ⟨rfl,hC2,hr⟩;have hX2:=ak hX1 hne hr;have R2:=R1.trans hr;clear x1 hX1 R1 hC1 hr;have x2:=aa hX2;go_wp2_with fail
  (try rw[show decide ((0:Int)<=n)=false by simp;omega])
  refine (bN false hC2).mono ?_;rintro e w20 ⟨rfl,hc,hr⟩;clear x2;go_wp2;go_end0
  refine⟨rfl,?_,R2.trans hr⟩;rw[aw (fun q=>HP.out (src4.1 q).2)];simpa using hc
theorem kSrcNo(k n vk vn:Int)(vs:ByteArray)(nr:Nat)(h1:¬k=1)(h2:¬k=2)(h3:¬k=3)(h4:¬k=4)(h:Chk a1 a2 oa ea nt c1 c2 oc ec fs.length K D wK b w) :
  Calls Tryz.prog 173 #[.pointer (some ⟨K,0,none⟩),.agg #[.int .i64 k,.int .i64 n,.int .i64 vk,.int .i64 vn,.string vs],.int .i64 (nr:Nat)] w fun e w'=>e=.returned (.tuple #[])/\Chk a1 a2 oa ea nt c1 c2 oc ec fs.length K D wK (b || !pB (SrcP fs.length D nr ⟨k,n,vk,vn,vs⟩)) w'/\Rk K w w':=by
 have hwk:K<w.heap.size:=aq h.blk;have hne:w.heap.size≠K:=by omega
 obtain⟨wA,hwA⟩:∃wA,wA=w.alloc (.cells #[.int .i64 k,.int .i64 n,.int .i64 vk,.int .i64 vn,.string vs] 273):=⟨_,rfl⟩;have hbA:Below w.heap.size w wA:=by rw[hwA];exact gM.alloc nL _
 have hX1:wA.heap[w.heap.size]?=some (.cells #[.int .i64 k,.int .i64 n,.int .i64 vk,.int .i64 vn,.string vs] 273 (0,0)):=by rw[hwA];exact ah _ _ _
 have hC1:=h.mono hbA;have R1:Rk K w wA:=Rk.of hbA;have x0:=aa (ah w #[.int .i64 k,.int .i64 n,.int .i64 vk,.int .i64 vn,.string vs] 273);have x1:=aa hX1;clear h hbA;have n1:(k != 1)=true:=by simpa using h1
 go_enter Tryz.func173,Tryz.ntmps173
 go_wp2_with fail
 rw[<-hwA];clear hwA x0;refine (aJ ⟨vk,vn,vs⟩ hC1).mono ?_;rintro e w11 ⟨rfl,hC2,hr⟩;have hX2:=ak hX1 hne hr;have R2:=R1.trans hr;clear x1 hX1 R1 hC1 hr;have x2:=aa hX2;have k3:=hC2.cells;have k4:=hC2.free;have g1:(k == 1)=false:=by simpa using h1
 have g2:(k == 2)=false:=by simpa using h2
 have g3:(k == 3)=false:=by simpa using h3
 have g4:(k == 4)=false:=by simpa using h4
 have HN:Hid (¬SrcP fs.length D nr ⟨k,n,vk,vn,vs⟩):=srcNo h1 h2 h3 h4;clear h1 h2 h3 h4;go_wp2;go_end0
 exact⟨rfl,(hC2.set true).no HN.out,R2.set _⟩
theorem kSrc_any(s:Sr)(nr:Nat)(hs:s.v.s.size<=1048576)(l:SLim fs D K wK a2 oa ea)(h:Chk a1 a2 oa ea nt c1 c2 oc ec fs.length K D wK b w) :
  Calls Tryz.prog 173 #[.pointer (some ⟨K,0,none⟩),.agg #[.int .i64 s.k,.int .i64 s.n,.int .i64 s.v.k,.int .i64 s.v.n,.string s.v.s],.int .i64 (nr:Nat)] w fun e w'=>e=.returned (.tuple #[])/\Chk a1 a2 oa ea nt c1 c2 oc ec fs.length K D wK (b || !pB (SrcP fs.length D nr s)) w'/\Rk K w w':=by
 obtain⟨k,n,vk,vn,vs⟩:=s;by_cases h1:k=1
 ·subst h1;exact kSrc1 n vk vn vs nr hs l h
 by_cases h2:k=2
 ·subst h2;exact kSrc2 n vk vn vs nr l h
 by_cases h3:k=3
 ·subst h3;exact kSrc3 n vk vn vs nr l h
 by_cases h4:k=4
 ·subst h4;exact kSrc4 n vk vn vs nr h
 exact kSrcNo k n vk vn vs nr h1 h2 h3 h4 h
def dd (nf:Nat)(D:aH)(nr:Nat)(ls:List Sr)(k:Nat):Prop:=∀i (h:i<ls.length),i<k->SrcP nf D nr ls[i]
theorem dd.more{nf:Nat}{D:aH}{nr k:Nat}{ls:List Sr}(hk:k<ls.length):dd nf D nr ls k/\SrcP nf D nr ls[k]↔dd nf D nr ls (k+1):=
 ⟨fun q i h hi=>by
  by_cases e:i=k
  ·subst e;exact q.2
  ·exact q.1 i h (by omega),fun q=>⟨fun i h hi=>q i h (by omega),q k hk (by omega)⟩⟩
theorem dd.all{nf:Nat}{D:aH}{nr:Nat}{ls:List Sr}:dd nf D nr ls ls.length↔dX nf D nr ls:=⟨fun q i h=>q i h h,fun q i h _=>q i h⟩
theorem dd.zero{nf:Nat}{D:aH}{nr:Nat}{ls:List Sr}:dd nf D nr ls 0:=fun _ _ h=>absurd h (Nat.not_lt_zero _)
theorem el(a:Option Addr)(ls:List Sr)(cap nr:Nat)(hl:aU bC ls)(hm:bq wK 0 a ls)(l:SLim fs D K wK a2 oa ea)(h:Chk a1 a2 oa ea nt c1 c2 oc ec fs.length K D wK b w) :
  Calls Tryz.prog 140 #[.pointer (some ⟨K,0,none⟩),.slice a ls.length cap,.int .i64 (nr:Nat)] w fun e w'=>e=.returned (.tuple #[])/\Chk a1 a2 oa ea nt c1 c2 oc ec fs.length K D wK (b || !pB (dX fs.length D nr ls)) w'/\Rk K w w':=by
 have hn:=hl.1;go_enter Tryz.func140,Tryz.ntmps140
 go_wp2;go_loopw [6] (fun i wr=>∃(k:Nat),k<=ls.length/\i=.int .i64 k/\Chk a1 a2 oa ea nt c1 c2 oc ec fs.length K D wK (b || !pB (dd fs.length D nr ls k)) wr/\Rk K w wr) (fun i _=>ls.length-(intOf i).toNat)
 case atStart=>exact⟨0,by omega,rfl,by rw[ay dd.zero];simpa using h,Rk.refl _ _⟩
 case round=>
  obtain⟨k,hk,rfl,hC,hR⟩:=hrel;by_cases hlt:k<ls.length
  case neg=>
   obtain rfl:k=ls.length:=by omega
   go_wp2;go_end0
   exact⟨rfl,hC.iff dd.all,hR⟩
  have hbel:=hC.bel;rw[l.size] at hbel;obtain⟨b',off,rfl,-,d0,d1,d2,d3,d4⟩:=(hm.mono hbel) k hlt;have hsk:=hl.2 _ (n_l hlt);clear hbel;go_wp2_with fail
  refine (kSrc_any ls[k] nr hsk l hC).mono ?_;rintro e w2 ⟨rfl,hC2,hr⟩;clear d0 d1 d2 d3 d4;go_wp2;go_roundw
  case rel=>exact⟨k+1,by omega,by go_num,hC2.both.iff (dd.more hlt),hR.trans hr⟩
  case measure=>simp[intOf];omega
end
end Go.Proofs.YtdlkbbgmjilccaaGreatDoor
