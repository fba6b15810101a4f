/- TV46 -/
import Derived.Test.YtdlkbbgmjilccaaGreatDoorTV44
import Derived.Test.YtdlkbbgmjilccaaGreatDoorTV38
import Derived.Test.YtdlkbbgmjilccaaGreatDoorTV39
import Derived.Test.YtdlkbbgmjilccaaGreatDoorTV40
import Derived.Test.YtdlkbbgmjilccaaGreatDoorTV41
import Derived.Test.YtdlkbbgmjilccaaGreatDoorTV42
import Derived.Test.YtdlkbbgmjilccaaGreatDoorTV35
import Derived.Test.YtdlkbbgmjilccaaGreatDoorTV43
import Derived.Test.YtdlkbbgmjilccaaGreatDoorTV45
set_option maxHeartbeats 32000000
set_option maxRecDepth 100000
namespace Go.Proofs.YtdlkbbgmjilccaaGreatDoor
open Go.RowKit
section
variable {fs:List Fn} {a1 a2 oa ea:Option Addr} {nt c1 c2 oc ec K:Nat} {D:aH} {wK w:World} {b:Bool}
theorem sOp_any(i:Nat)(hi:i<D.ops.length)(l:SLim fs D K wK a2 oa ea)(h:Chk a1 a2 oa ea nt c1 c2 oc ec fs.length K D wK b w) :
  Calls Tryz.prog 93 #[.pointer (some ⟨K,0,none⟩),.int .i64 (i:Nat)] w fun e w'=>e=.returned (.tuple #[])/\Chk a1 a2 oa ea nt c1 c2 oc ec fs.length K D wK (b || !pB (FopP fs D i D.ops[i])) w'/\Rk K w w':=by
 by_cases his:(insD fs D.ops[i].f D.ops[i].p).isSome=true
 case neg=>exact sOpBad_any i hi his l h
 by_cases hno:D.ops[i].op<1\/29<D.ops[i].op
 case pos=>exact sOpNo_any i hi hno his l h
 obtain⟨v,hv⟩:∃v:Nat,D.ops[i].op=v:=⟨D.ops[i].op.toNat,by omega⟩;have h1:1<=v:=by omega
 have h2:v<=29:=by omega
 match v,hv,h1,h2 with
 | 1,hv,_,_=>exact sOp1_any i hi hv his l h
 | 2,hv,_,_=>exact sOp2_any i hi hv his l h
 | 3,hv,_,_=>exact sOp3_any i hi hv his l h
 | 4,hv,_,_=>exact sOp4_any i hi hv his l h
 | 5,hv,_,_=>exact sOp5_any i hi hv his l h
 | 6,hv,_,_=>exact sOp6_any i hi hv his l h
 | 7,hv,_,_=>exact sOp7_any i hi hv his l h
 | 8,hv,_,_=>exact sOp8_any i hi hv his l h
 | 9,hv,_,_=>exact sOp9_any i hi hv his l h
 | 10,hv,_,_=>exact sOp10_any i hi hv his l h
 | 11,hv,_,_=>exact sOp11_any i hi hv his l h
 | 12,hv,_,_=>exact sOp12_any i hi hv his l h
 | 13,hv,_,_=>exact sOp13_any i hi hv his l h
 | 14,hv,_,_=>exact sOp14_any i hi hv his l h
 | 15,hv,_,_=>exact sOp15_any i hi hv his l h
 | 16,hv,_,_=>exact sOp16_any i hi hv his l h
 | 17,hv,_,_=>exact sOp17_any i hi hv his l h
 | 18,hv,_,_=>exact sOp18_any i hi hv his l h
 | 19,hv,_,_=>exact sOp19_any i hi hv his l h
 | 20,hv,_,_=>exact sOp20_any i hi hv his l h
 | 21,hv,_,_=>exact sOp21_any i hi hv his l h
 | 22,hv,_,_=>exact sOp22_any i hi hv his l h
 | 23,hv,_,_=>exact sOp23_any i hi hv his l h
 | 24,hv,_,_=>exact sOp24_any i hi hv his l h
 | 25,hv,_,_=>exact sOp25_any i hi hv his l h
 | 26,hv,_,_=>exact sOp26_any i hi hv his l h
 | 27,hv,_,_=>exact sOp27_any i hi hv his l h
 | 28,hv,_,_=>exact sOp28_any i hi hv his l h
 | 29,hv,_,_=>exact sOp29_any i hi hv his l h
 | n+30,_,_,h2=>omega
end
def InTo (lst:List Int)(v:Int)(j:Nat):Prop:=v∈lst.take j
theorem InTo.more{lst:List Int}{v:Int}{j:Nat}(h:j<lst.length):InTo lst v (j+1)↔InTo lst v j\/lst[j]=v:=by
 unfold InTo;rw[List.take_succ_eq_append_getElem h,List.mem_append,List.mem_singleton];exact or_congr Iff.rfl ⟨fun e=>e.symm,fun e=>e.symm⟩
def dw (fs:List Fn)(D:aH)(k:Nat):Prop:=∀i (h:i<D.ops.length),i<k->FopP fs D i D.ops[i]
def dD (fs:List Fn)(D:aH)(k:Nat):Prop:=∀i (h:i<D.exits.length),i<k->eR fs D D.exits[i]
theorem dw.more{fs:List Fn}{D:aH}{k:Nat}(hk:k<D.ops.length):dw fs D k/\FopP fs D k D.ops[k]↔dw fs D (k+1):=
 ⟨fun q i h hi=>by
  by_cases e:i=k
  ·subst e;exact q.2
  ·exact q.1 i h (by omega),fun q=>⟨fun i h hi=>q i h (by omega),q k hk (by omega)⟩⟩
theorem dD.more{fs:List Fn}{D:aH}{k:Nat}(hk:k<D.exits.length):dD fs D k/\eR fs D D.exits[k]↔dD fs D (k+1):=
 ⟨fun q i h hi=>by
  by_cases e:i=k
  ·subst e;exact q.2
  ·exact q.1 i h (by omega),fun q=>⟨fun i h hi=>q i h (by omega),q k hk (by omega)⟩⟩
theorem dw.zero{fs:List Fn}{D:aH}:dw fs D 0:=fun _ _ h=>absurd h (Nat.not_lt_zero _)
theorem dD.zero{fs:List Fn}{D:aH}:dD fs D 0:=fun _ _ h=>absurd h (Nat.not_lt_zero _)
theorem locals_low{ts:List ByteArray}{fs:List Fn}(h:modB ts fs=true){k:Nat}(hk:k<fs.length):0<=fs[k].locals/\fs[k].locals<=12:=by
 unfold modB at h;simp only[Bool.and_eq_true,List.all_eq_true] at h
 have h2:=h.2 _ (n_l hk);unfold fnB at h2;simp only[Bool.and_eq_true,decide_eq_true_eq] at h2
 omega
section
variable {ts:List ByteArray} {fs:List Fn} {D:aH} {w:World}
theorem sL10_any(a1 a2 oa ea:Option Addr)(c1 c2 oc ec:Nat)(hs:b9 ts fs)(hd:bI D)(hG:Good ts fs)(hm2:FnsAt w 0 a2 fs)(hf:ev w 0 oa ea D) :
  Calls Tryz.prog 46 #[.agg #[.slice a1 ts.length c1,.slice a2 fs.length c2],.agg (bX oa ea oc ec D)] w fun e w'=>e=.returned (.bool (pB (cq fs D/\OpsP fs D/\ew fs D)))/\Below w.heap.size w w':=by
 unfold bX;obtain⟨wA,hwA⟩:∃wA,wA=(w.alloc (.cells #[.slice a1 ts.length c1,.slice a2 fs.length c2] 42)).alloc (.cells #[.int .i64 D.fn,.int .i64 D.entry,.int .i64 D.vals,.int .i64 D.nums,.slice oa D.ops.length oc,.slice ea D.exits.length ec] 101):=⟨_,rfl⟩;have hbA:Below w.heap.size w wA:=by rw[hwA];exact (gM.alloc nL _).alloc (by simp) _
 have hM0:wA.heap[w.heap.size]?=some (.cells #[.slice a1 ts.length c1,.slice a2 fs.length c2] 42 (0,0)):=by rw[hwA];exact al (ah _ _ _) _
 have hF0:wA.heap[w.heap.size+1]?=some (.cells #[.int .i64 D.fn,.int .i64 D.entry,.int .i64 D.vals,.int .i64 D.nums,.slice oa D.ops.length oc,.slice ea D.exits.length ec] 101 (0,0)):=by rw[hwA];exact ax _ _ _ _ (by simp)
 have m0:=aa (al (ah w #[.slice a1 ts.length c1,.slice a2 fs.length c2] 42) (.cells #[.int .i64 D.fn,.int .i64 D.entry,.int .i64 D.vals,.int .i64 D.nums,.slice oa D.ops.length oc,.slice ea D.exits.length ec] 101));have f0:=aa (ax (w.alloc (.cells #[.slice a1 ts.length c1,.slice a2 fs.length c2] 42)) #[.int .i64 D.fn,.int .i64 D.entry,.int .i64 D.vals,.int .i64 D.nums,.slice oa D.ops.length oc,.slice ea D.exits.length ec] 101 (w.heap.size+1) (by simp));have hnf:=hs.funcs;have hw1:IntKind.i64.wrap ((fs.length:Int)-1)=(fs.length:Int)-1:=by rw[IntKind.wrap_i64];omega
 by_cases hr:Reg D.fn fs.length
 case neg=>
  have HB:pB (Btw D.fn 0 ((fs.length:Int)-1))=false:=by rw[dr];exact aw hr
  have HN:Hid (¬Reg D.fn fs.length):=hr;clear hr;go_enter Tryz.func46,Tryz.ntmps46
  go_wp2_with fail
  refine (a8 _ _ _ _).mono ?_;rintro e w1 ⟨rfl,hw⟩;rw[hw,HB,<-hwA];clear hw w1 hwA;go_wp2;go_ret
  exact⟨aj (aw (fun q=>HN.out ⟨q.1.1,by obtain⟨⟨q1,q2,-⟩,-⟩:=q;omega⟩)).symm,hbA⟩
 have HB:pB (Btw D.fn 0 ((fs.length:Int)-1))=true:=by rw[dr];exact ay hr
 obtain⟨k,hkf⟩:∃k:Nat,D.fn=k:=⟨D.fn.toNat,by have:=hr.1;omega⟩;have hk:k<fs.length:=by have:=hr.2;omega
 have HKF:Hid (D.fn=(k:Int)):=hkf;clear hr hkf;have hmod:=good_mod hG;have hloc:=locals_low hmod hk;obtain⟨bf,of,ca,cc,ha2,-,fd1,fd2,fd3,fd4⟩:=hm2 k hk;subst ha2;have HFD:Hid (w.cell? ⟨bf,of+k*3+1,none⟩=some (.int .i64 fs[k].locals)):=fd2;clear fd1 fd2 fd3 fd4;have F:=cy hmod hk;have hGJ:∀d,Done fs fs[k].code d->GJ fs[k].code d:=fun d hD=>(gj_of hG hk hD).1
 go_enter Tryz.func46,Tryz.ntmps46
 go_wp2_with fail
 refine (a8 _ _ _ _).mono ?_;rintro e w1 ⟨rfl,hw⟩;rw[hw,HB,<-hwA];have m1:=aa hM0;have f1:=aa hF0;rw[HKF.out] at f1;clear hw w1 hwA m0 f0;go_wp2_with fail
 refine (sEntries0_any _ _ _ _ _ fs k _ hk hnf (hm2.mono hbA) F hGJ).mono ?_;rintro e w2 ⟨v,d,rfl,hD,hds,hb⟩;have hM2:=ab hM0 hb;have hF2:=ab hF0 hb;have hB2:=hbA.trans (hb.mono hbA.size);obtain⟨lst,hlst⟩:∃lst,lst=lstI (EP fs[k].code d fs[k].code.length) fs[k].code.length:=⟨_,rfl⟩;rw[<-hlst] at hds;have HLS:Hid (lst=lstI (EP fs[k].code d fs[k].code.length) fs[k].code.length):=hlst;have hlen:lst.length<=120:=by rw[hlst];have:=ei (EP fs[k].code d fs[k].code.length) fs[k].code.length;have:=F.most;omega
 obtain⟨av,cv,rfl,hints⟩:=hds.form;clear hds hlst hM0 hF0 hb hbA m1 f1;go_wp2;go_loopw [5,7] (fun s5 i wr=>∃(j:Nat) (fb:Bool),j<=lst.length/\i=.int .i64 j/\s5=.bool fb/\Hid (fb=true↔InTo lst D.entry j)/\Below w2.heap.size w2 wr) (fun _ i _=>lst.length-(intOf i).toNat)
 case atStart=>exact⟨0,false,by omega,rfl,rfl,by show _↔_;unfold InTo;simp,Below.refl _ _⟩
 case round=>
  obtain⟨j,fb,hj,rfl,rfl,hfb,hbr⟩:=hrel;by_cases hlt:j<lst.length
  case pos=>
   obtain⟨bl,ol,hav,-,dl⟩:=hints j hlt
   cases hav;have HS:Hid (∀w',Below wr.heap.size wr w'->w'.cell? ⟨w.heap.size+1,1,none⟩=some (.int .i64 D.entry)/\w'.cell? ⟨bl,ol+j,none⟩=some (.int .i64 lst[j])):=fun w' q=>⟨aa (ab (ab hF2 hbr) q) 1,cell_later q (cell_later hbr dl)⟩
   have zj:(j:Int)<(lst.length:Int):=by omega
   have zj0:(0:Int)<=(j:Int):=by omega
   obtain⟨wo,rfl⟩:∃wo,wo=wr:=⟨_,rfl⟩
   cases fb
   case true=>
    go_upto_region 8 with fail
    refine au (by kernel_rfl) (by kernel_rfl) ?_
    iterate 2
     refine ae (v:=?_) (by kernel_rfl) ?_ ?_;rotate_left
     ·intro w' hC;obtain⟨j0,j1⟩:=HS.out w' hC;go_simp;try with_reducible rfl
     try simp only[Act.put,sAr,sZe,sSu]
    iterate 7 go_big_quiet_skip
    iterate 2
     refine ae (v:=?_) (by kernel_rfl) ?_ ?_;rotate_left
     ·intro w' hC;obtain⟨j0,j1⟩:=HS.out w' hC;go_simp;try with_reducible rfl
     try simp only[Act.put,sAr,sZe,sSu]
    refine wpQuiet_nil ?_;intro w3 QQ;go_wp2;go_roundw
    case rel=>exact⟨j+1,true,by omega,by go_num,rfl,⟨fun _=>(InTo.more hlt).2 (.inl (hfb.out.1 rfl)),fun _=>rfl⟩,hbr.trans (QQ.mono hbr.size)⟩
    case measure=>simp[intOf];omega
   case false=>
    go_upto_region 8 with fail
    refine au (by kernel_rfl) (by kernel_rfl) ?_
    iterate 11
     refine ae (v:=?_) (by kernel_rfl) ?_ ?_;rotate_left
     ·intro w' hC;obtain⟨j0,j1⟩:=HS.out w' hC;go_simp;try with_reducible rfl
     try simp only[Act.put,sAr,sZe,sSu]
    refine wpQuiet_nil ?_;intro w3 QQ;go_wp2;go_roundw
    case rel=>exact⟨j+1,_,by omega,by go_num,rfl,by
     show _↔_
     rw[InTo.more hlt];constructor
     ·intro q;exact .inr (by simpa using q)
     ·intro q;rcases q with q | q
      ·exact absurd (hfb.out.2 q) (by decide)
      ·simpa using q,hbr.trans (QQ.mono hbr.size)⟩
    case measure=>simp[intOf];omega
  obtain rfl:j=lst.length:=by omega
  obtain⟨wo,rfl⟩:∃wo,wo=wr:=⟨_,rfl⟩;have hFr:=ab hF2 hbr;have hMr:=ab hM2 hbr;have hBr:=hB2.trans (hbr.mono hB2.size);have z2:¬(lst.length:Int)<(lst.length:Int):=by omega
  have HD:Hid (Done fs fs[k].code d):=hD;have HDEP:Hid (dep fs fs[k].code=d):=fX hD;have hkk:D.fn.toNat=k:=by rw[HKF.out];simp
  have HKK:Hid (D.fn.toNat=k):=hkk;have P:=hD.hts F;clear hlt hints hF2 hM2 hbr hkk
  cases fb
  case false=>
   have HN:Hid (¬D.entry∈lst):=fun q=>absurd (hfb.out.2 (by unfold InTo;rw[List.take_length];exact q)) (by decide)
   clear hfb hD P;go_upto_region 9 with fail
   refine au (by kernel_rfl) (by kernel_rfl) ?_
   iterate 3
    refine ae (v:=?_) (by kernel_rfl) ?_ ?_;rotate_left
    ·intro w' hC;go_simp;try with_reducible rfl
    try simp only[Act.put,sAr,sZe,sSu]
   iterate 20 go_big_quiet_skip
   iterate 2
    refine ae (v:=?_) (by kernel_rfl) ?_ ?_;rotate_left
    ·intro w' hC;go_simp;try with_reducible rfl
    try simp only[Act.put,sAr,sZe,sSu]
   iterate 4 go_big_quiet_skip
   iterate 2
    refine ae (v:=?_) (by kernel_rfl) ?_ ?_;rotate_left
    ·intro w' hC;go_simp;try with_reducible rfl
    try simp only[Act.put,sAr,sZe,sSu]
   iterate 5 go_big_quiet_skip
   iterate 2
    refine ae (v:=?_) (by kernel_rfl) ?_ ?_;rotate_left
    ·intro w' hC;go_simp;try with_reducible rfl
    try simp only[Act.put,sAr,sZe,sSu]
   iterate 4 go_big_quiet_skip
   refine ae (v:=?_) (by kernel_rfl) ?_ ?_;rotate_left
   ·intro w' hC;go_simp;try with_reducible rfl
   try simp only[Act.put,sAr,sZe,sSu]
   refine wpQuiet_nil ?_;intro w3 QQ;go_wp2;go_ret
   refine⟨aj (aw ?_).symm,hBr.trans (QQ.mono hBr.size)⟩;rintro⟨⟨q1,q3,q4,-⟩,-⟩;have hkk:=HKK.out;simp only[hkk] at q4
   rw[HDEP.out] at q4;exact HN.out (by rw[HLS.out];exact q4)
  have hin:D.entry∈lst:=by
   have:=hfb.out.1 rfl;unfold InTo at this;rwa [List.take_length] at this
  have hin2:=hin;rw[HLS.out] at hin2;obtain⟨en,hen,hee,-⟩:=mem_lstI hin2;have hpl:=P.len;obtain⟨dv,hdv⟩:∃dv,dv=d[en]'(by omega):=⟨_,rfl⟩;have hdl:-1<=dv/\dv<=16:=⟨by rw[hdv];exact P.low _ _,by rw[hdv];exact P.high _ _⟩;have HDV0:Hid (d[en]?=some dv):=by show _=_;rw[hdv];exact List.getElem?_eq_getElem _
  have HPL:Hid (d.length=fs[k].code.length):=hpl;have HEN:Hid (en<fs[k].code.length):=hen;have hw0:IntKind.i64.wrap (fs[k].locals+dv)=fs[k].locals+dv:=by rw[IntKind.wrap_i64];omega
  have HDV:Hid (ht fs D.fn D.entry=dv):=by
   show _=_
   rw[HKF.out,hee,fZ hk hD (by omega),hdv]
  have HEE:Hid (D.entry=(en:Int)):=hee;have HE:Hid (cq fs D↔Btw D.vals (fs[k].locals+dv) 400/\Btw D.nums 0 400):=by
   show _↔_
   have hkk:=HKK.out;unfold cq;simp only[hkk,HDEP.out,HDV.out,<-HLS.out,hw0]
   exact⟨fun q=>⟨q.2.2.2.1,q.2.2.2.2⟩,fun q=>⟨by rw[HKF.out];omega,hk,hin,q⟩⟩
  have HFN:Hid (∀w',Below wo.heap.size wo w'->FnsAt w' 0 (some ⟨bf,of,none⟩) fs):=fun w' q=>(hm2.mono hBr).mono q
  have HS:Hid (∀w',Below wo.heap.size wo w'->w'.cell? ⟨w.heap.size+1,0,none⟩=some (.int .i64 (k:Int))/\w'.cell? ⟨w.heap.size+1,1,none⟩=some (.int .i64 (en:Int))/\w'.cell? ⟨w.heap.size+1,2,none⟩=some (.int .i64 D.vals)/\w'.cell? ⟨w.heap.size+1,3,none⟩=some (.int .i64 D.nums)/\w'.cell? ⟨w.heap.size+1,4,none⟩=some (.slice oa D.ops.length oc)/\w'.cell? ⟨w.heap.size+1,5,none⟩=some (.slice ea D.exits.length ec)/\w'.cell? ⟨w.heap.size,0,none⟩=some (.slice a1 ts.length c1)/\w'.cell? ⟨w.heap.size,1,none⟩=some (.slice (some ⟨bf,of,none⟩) fs.length c2)/\w'.cell? ⟨bf,of+k*3+1,none⟩=some (.int .i64 fs[k].locals)):=fun w' q=>by
   have t0:=aa (ab hFr q) 0;rw[HKF.out] at t0;have t1:=aa (ab hFr q) 1;rw[HEE.out] at t1;exact⟨t0,t1,aa (ab hFr q) 2,aa (ab hFr q) 3,aa (ab hFr q) 4,aa (ab hFr q) 5,aa (ab hMr q) 0,aa (ab hMr q) 1,cell_later q (cell_later hBr HFD.out)⟩
  have y0:(0:Int)<=(en:Int):=by omega
  have y1:(en:Int)<(fs[k].code.length:Int):=by omega
  have y2:(0:Int)<=(k:Int):=by omega
  have y3:(k:Int)<(fs.length:Int):=by omega
  have HLOC:Hid (0<=fs[k].locals/\-1<=dv):=⟨hloc.1,hdl.1⟩;clear hin hin2 hee hdv hD hfb hpl P hen hdl hloc;have q:Below wo.heap.size wo wo.drew:=gM.drew;go_upto_region 9 with fail
  have hh:=HS.out _ q;refine fy (fun w':World=>w'.cell? ⟨w.heap.size+1,0,none⟩=some (.int .i64 (k:Int))/\w'.cell? ⟨w.heap.size+1,1,none⟩=some (.int .i64 (en:Int))/\w'.cell? ⟨w.heap.size+1,2,none⟩=some (.int .i64 D.vals)/\w'.cell? ⟨w.heap.size+1,3,none⟩=some (.int .i64 D.nums)/\w'.cell? ⟨w.heap.size+1,4,none⟩=some (.slice oa D.ops.length oc)/\w'.cell? ⟨w.heap.size+1,5,none⟩=some (.slice ea D.exits.length ec)/\w'.cell? ⟨w.heap.size,0,none⟩=some (.slice a1 ts.length c1)/\w'.cell? ⟨w.heap.size,1,none⟩=some (.slice (some ⟨bf,of,none⟩) fs.length c2)/\w'.cell? ⟨bf,of+k*3+1,none⟩=some (.int .i64 fs[k].locals)) (by kernel_rfl) ?_;refine aF (i:=0) (oi:=_) (v:=?_) rfl (by kernel_rfl) (by kernel_rfl) (by kernel_rfl) (fun _ _ _ h=>h) (by kernel_rfl) ?_ hh ?_;rotate_left
  ·intro w' hSw;obtain⟨s0,s1,s2,s3,s4,s5,s6,s7,s8⟩:=hSw;go_simp;try with_reducible rfl
  simp only[Act.put,List.setIfInBounds_toArray]
  refine aF (i:=1) (oi:=_) (v:=?_) rfl (by kernel_rfl) (by kernel_rfl) (by kernel_rfl) (fun _ _ _ h=>h) (by kernel_rfl) ?_ hh ?_;rotate_left
  ·intro w' hSw;obtain⟨s0,s1,s2,s3,s4,s5,s6,s7,s8⟩:=hSw;go_simp;try with_reducible rfl
  simp only[Act.put]
  refine aF (i:=2) (oi:=_) (v:=?_) rfl (by kernel_rfl) (by kernel_rfl) (by kernel_rfl) (fun _ _ _ h=>h) (by kernel_rfl) ?_ hh ?_;rotate_left
  ·intro w' hSw;obtain⟨s0,s1,s2,s3,s4,s5,s6,s7,s8⟩:=hSw;go_simp;try with_reducible rfl
  simp only[Act.put]
  refine aF (i:=3) (oi:=_) (v:=?_) rfl (by kernel_rfl) (by kernel_rfl) (by kernel_rfl) (fun _ _ _ h=>h) (by kernel_rfl) ?_ hh ?_;rotate_left
  ·intro w' hSw;obtain⟨s0,s1,s2,s3,s4,s5,s6,s7,s8⟩:=hSw;go_simp;try with_reducible rfl
  simp only[Act.put]
  refine aF (i:=4) (oi:=_) (v:=?_) rfl (by kernel_rfl) (by kernel_rfl) (by kernel_rfl) (fun _ _ _ h=>h) (by kernel_rfl) ?_ hh ?_;rotate_left
  ·intro w' hSw;obtain⟨s0,s1,s2,s3,s4,s5,s6,s7,s8⟩:=hSw;go_simp;try with_reducible rfl
  simp only[Act.put]
  refine aF (i:=5) (oi:=_) (v:=?_) rfl (by kernel_rfl) (by kernel_rfl) (by kernel_rfl) (fun _ _ _ h=>h) (by kernel_rfl) ?_ hh ?_;rotate_left
  ·intro w' hSw;obtain⟨s0,s1,s2,s3,s4,s5,s6,s7,s8⟩:=hSw;go_simp;try with_reducible rfl
  simp only[Act.put]
  refine aF (i:=6) (oi:=_) (v:=?_) rfl (by kernel_rfl) (by kernel_rfl) (by kernel_rfl) (fun _ _ _ h=>h) (by kernel_rfl) ?_ hh ?_;rotate_left
  ·intro w' hSw;obtain⟨s0,s1,s2,s3,s4,s5,s6,s7,s8⟩:=hSw;go_simp;try with_reducible rfl
  simp only[Act.put]
  refine aF (i:=7) (oi:=_) (v:=?_) rfl (by kernel_rfl) (by kernel_rfl) (by kernel_rfl) (fun _ _ _ h=>h) (by kernel_rfl) ?_ hh ?_;rotate_left
  ·intro w' hSw;obtain⟨s0,s1,s2,s3,s4,s5,s6,s7,s8⟩:=hSw;go_simp;try with_reducible rfl
  simp only[Act.put]
  refine aF (i:=8) (oi:=_) (v:=?_) rfl (by kernel_rfl) (by kernel_rfl) (by kernel_rfl) (fun _ _ _ h=>h) (by kernel_rfl) ?_ hh ?_;rotate_left
  ·intro w' hSw;obtain⟨s0,s1,s2,s3,s4,s5,s6,s7,s8⟩:=hSw;go_simp;try with_reducible rfl
  simp only[Act.put]
  refine aF (i:=9) (oi:=_) (v:=?_) rfl (by kernel_rfl) (by kernel_rfl) (by kernel_rfl) (fun _ _ _ h=>h) (by kernel_rfl) ?_ hh ?_;rotate_left
  ·intro w' hSw;obtain⟨s0,s1,s2,s3,s4,s5,s6,s7,s8⟩:=hSw;go_simp;try with_reducible rfl
  simp only[Act.put]
  refine aF (i:=10) (oi:=_) (v:=?_) rfl (by kernel_rfl) (by kernel_rfl) (by kernel_rfl) (fun _ _ _ h=>h) (by kernel_rfl) ?_ hh ?_;rotate_left
  ·intro w' hSw;obtain⟨s0,s1,s2,s3,s4,s5,s6,s7,s8⟩:=hSw;go_simp;try with_reducible rfl
  simp only[Act.put]
  refine aF (i:=11) (oi:=_) (v:=?_) rfl (by kernel_rfl) (by kernel_rfl) (by kernel_rfl) (fun _ _ _ h=>h) (by kernel_rfl) ?_ hh ?_;rotate_left
  ·intro w' hSw;obtain⟨s0,s1,s2,s3,s4,s5,s6,s7,s8⟩:=hSw;go_simp;try with_reducible rfl
  simp only[Act.put]
  refine aF (i:=12) (oi:=_) (v:=?_) rfl (by kernel_rfl) (by kernel_rfl) (by kernel_rfl) (fun _ _ _ h=>h) (by kernel_rfl) ?_ hh ?_;rotate_left
  ·intro w' hSw;obtain⟨s0,s1,s2,s3,s4,s5,s6,s7,s8⟩:=hSw;go_simp;try with_reducible rfl
  simp only[Act.put]
  refine aF (i:=13) (oi:=_) (v:=?_) rfl (by kernel_rfl) (by kernel_rfl) (by kernel_rfl) (fun _ _ _ h=>h) (by kernel_rfl) ?_ hh ?_;rotate_left
  ·intro w' hSw;obtain⟨s0,s1,s2,s3,s4,s5,s6,s7,s8⟩:=hSw;go_simp;try with_reducible rfl
  simp only[Act.put]
  refine aF (i:=14) (oi:=_) (v:=?_) rfl (by kernel_rfl) (by kernel_rfl) (by kernel_rfl) (fun _ _ _ h=>h) (by kernel_rfl) ?_ hh ?_;rotate_left
  ·intro w' hSw;obtain⟨s0,s1,s2,s3,s4,s5,s6,s7,s8⟩:=hSw;go_simp;try with_reducible rfl
  simp only[Act.put]
  refine aF (i:=16) (oi:=_) (v:=?_) rfl (by kernel_rfl) (by kernel_rfl) (by kernel_rfl) (fun _ _ _ h=>h) (by kernel_rfl) ?_ hh ?_;rotate_left
  ·intro w' hSw;obtain⟨s0,s1,s2,s3,s4,s5,s6,s7,s8⟩:=hSw;go_simp;try with_reducible rfl
  simp only[Act.put]
  refine aF (i:=17) (oi:=_) (v:=?_) rfl (by kernel_rfl) (by kernel_rfl) (by kernel_rfl) (fun _ _ _ h=>h) (by kernel_rfl) ?_ hh ?_;rotate_left
  ·intro w' hSw;obtain⟨s0,s1,s2,s3,s4,s5,s6,s7,s8⟩:=hSw;go_simp;try with_reducible rfl
  simp only[Act.put]
  refine dB (i:=15) (o:=_) (by kernel_rfl) rfl (fun K hK=>?_);go_simp;go_at_call 83
  refine (cO a1 (some ⟨bf,of,none⟩) _ c1 c2 fs k _ hk hnf (HFN.out _ q) F).mono ?_;rintro e wd ⟨g,cap,d',rfl,hg,hD',hHt,kd⟩;have q:=q.trans (kd.mono q.size);obtain rfl:d'=d:=hD'.one HD.out;obtain⟨cur,hc1,hc2,hc3,hc4⟩:=hHt;have hgd:wd.cell? ⟨g,en,none⟩=some (.int .i64 dv):=by rw[aa hc1,hc4 en (by have:=HPL.out;have:=HEN.out;omega)];have:=HDV0.out;rw[List.getElem?_eq_getElem (by have:=HPL.out;have:=HEN.out;omega)] at this;rw[Option.some.inj this]
  have hh:=HS.out _ q;refine hK.out _ _ hh ?_;clear hK K;try simp only[Act.put]
  refine aF (i:=18) (oi:=_) (v:=?_) rfl (by kernel_rfl) (by kernel_rfl) (by kernel_rfl) (fun _ _ _ h=>h) (by kernel_rfl) ?_ hh ?_;rotate_left
  ·intro w' hSw;obtain⟨s0,s1,s2,s3,s4,s5,s6,s7,s8⟩:=hSw;go_simp;try with_reducible rfl
  simp only[Act.put]
  refine dB (i:=19) (o:=_) (by kernel_rfl) rfl (fun K hK=>?_);go_simp;refine hK.out _ _ hh ?_;clear hK K;try simp only[Act.put]
  clear hgd hc1 hc2 hc3 hc4;refine aF (i:=20) (oi:=_) (v:=?_) rfl (by kernel_rfl) (by kernel_rfl) (by kernel_rfl) (fun _ _ _ h=>h) (by kernel_rfl) ?_ hh ?_;rotate_left
  ·intro w' hSw;obtain⟨s0,s1,s2,s3,s4,s5,s6,s7,s8⟩:=hSw;go_simp;try with_reducible rfl
  simp only[Act.put]
  by_cases hV:Btw D.vals (fs[k].locals+dv) 400
  case neg=>
   have HVB:pB (Btw D.vals (fs[k].locals+dv) 400)=false:=aw hV;have HN:Hid (¬Btw D.vals (fs[k].locals+dv) 400):=hV;clear hV;refine dB (i:=21) (o:=_) (by kernel_rfl) rfl (fun K hK=>?_);go_simp;go_at_call 45
   refine (a8 _ _ _ _).mono ?_;rintro e wz ⟨rfl,hw⟩;rw[hw,HVB];clear hw wz;refine hK.out _ _ hh ?_;clear hK K;try simp only[Act.put]
   refine aF (i:=22) (oi:=_) (v:=?_) rfl (by kernel_rfl) (by kernel_rfl) (by kernel_rfl) (fun _ _ _ h=>h) (by kernel_rfl) ?_ hh ?_;rotate_left
   ·intro w' hSw;obtain⟨s0,s1,s2,s3,s4,s5,s6,s7,s8⟩:=hSw;go_simp;try with_reducible rfl
   simp only[Act.put]
   refine aF (i:=23) (oi:=_) (v:=?_) rfl (by kernel_rfl) (by kernel_rfl) (by kernel_rfl) (fun _ _ _ h=>h) (by kernel_rfl) ?_ hh ?_;rotate_left
   ·intro w' hSw;obtain⟨s0,s1,s2,s3,s4,s5,s6,s7,s8⟩:=hSw;go_simp;try with_reducible rfl
   simp only[Act.put]
   refine aF (i:=24) (oi:=_) (v:=?_) rfl (by kernel_rfl) (by kernel_rfl) (by kernel_rfl) (fun _ _ _ h=>h) (by kernel_rfl) ?_ hh ?_;rotate_left
   ·intro w' hSw;obtain⟨s0,s1,s2,s3,s4,s5,s6,s7,s8⟩:=hSw;go_simp;try with_reducible rfl
   simp only[Act.put]
   refine ba (i:=25) (oi:=_) rfl (by kernel_rfl) (by kernel_rfl) (by kernel_rfl) (fun _ _ _ h=>h) (by kernel_rfl) hh ?_;simp only[Act.put]
   refine ba (i:=26) (oi:=_) rfl (by kernel_rfl) (by kernel_rfl) (by kernel_rfl) (fun _ _ _ h=>h) (by kernel_rfl) hh ?_;simp only[Act.put]
   refine ba (i:=27) (oi:=_) rfl (by kernel_rfl) (by kernel_rfl) (by kernel_rfl) (fun _ _ _ h=>h) (by kernel_rfl) hh ?_;simp only[Act.put]
   refine ba (i:=28) (oi:=_) rfl (by kernel_rfl) (by kernel_rfl) (by kernel_rfl) (fun _ _ _ h=>h) (by kernel_rfl) hh ?_;simp only[Act.put]
   refine aF (i:=29) (oi:=_) (v:=?_) rfl (by kernel_rfl) (by kernel_rfl) (by kernel_rfl) (fun _ _ _ h=>h) (by kernel_rfl) ?_ hh ?_;rotate_left
   ·intro w' hSw;obtain⟨s0,s1,s2,s3,s4,s5,s6,s7,s8⟩:=hSw;go_simp;try with_reducible rfl
   simp only[Act.put]
   refine aF (i:=30) (oi:=_) (v:=?_) rfl (by kernel_rfl) (by kernel_rfl) (by kernel_rfl) (fun _ _ _ h=>h) (by kernel_rfl) ?_ hh ?_;rotate_left
   ·intro w' hSw;obtain⟨s0,s1,s2,s3,s4,s5,s6,s7,s8⟩:=hSw;go_simp;try with_reducible rfl
   simp only[Act.put]
   refine ba (i:=31) (oi:=_) rfl (by kernel_rfl) (by kernel_rfl) (by kernel_rfl) (fun _ _ _ h=>h) (by kernel_rfl) hh ?_;simp only[Act.put]
   refine ba (i:=32) (oi:=_) rfl (by kernel_rfl) (by kernel_rfl) (by kernel_rfl) (fun _ _ _ h=>h) (by kernel_rfl) hh ?_;simp only[Act.put]
   refine ba (i:=33) (oi:=_) rfl (by kernel_rfl) (by kernel_rfl) (by kernel_rfl) (fun _ _ _ h=>h) (by kernel_rfl) hh ?_;simp only[Act.put]
   refine ba (i:=34) (oi:=_) rfl (by kernel_rfl) (by kernel_rfl) (by kernel_rfl) (fun _ _ _ h=>h) (by kernel_rfl) hh ?_;simp only[Act.put]
   refine ba (i:=35) (oi:=_) rfl (by kernel_rfl) (by kernel_rfl) (by kernel_rfl) (fun _ _ _ h=>h) (by kernel_rfl) hh ?_;simp only[Act.put]
   refine aF (i:=36) (oi:=_) (v:=?_) rfl (by kernel_rfl) (by kernel_rfl) (by kernel_rfl) (fun _ _ _ h=>h) (by kernel_rfl) ?_ hh ?_;rotate_left
   ·intro w' hSw;obtain⟨s0,s1,s2,s3,s4,s5,s6,s7,s8⟩:=hSw;go_simp;try with_reducible rfl
   simp only[Act.put]
   refine aF (i:=37) (oi:=_) (v:=?_) rfl (by kernel_rfl) (by kernel_rfl) (by kernel_rfl) (fun _ _ _ h=>h) (by kernel_rfl) ?_ hh ?_;rotate_left
   ·intro w' hSw;obtain⟨s0,s1,s2,s3,s4,s5,s6,s7,s8⟩:=hSw;go_simp;try with_reducible rfl
   simp only[Act.put]
   refine ba (i:=38) (oi:=_) rfl (by kernel_rfl) (by kernel_rfl) (by kernel_rfl) (fun _ _ _ h=>h) (by kernel_rfl) hh ?_;simp only[Act.put]
   refine ba (i:=39) (oi:=_) rfl (by kernel_rfl) (by kernel_rfl) (by kernel_rfl) (fun _ _ _ h=>h) (by kernel_rfl) hh ?_;simp only[Act.put]
   refine ba (i:=40) (oi:=_) rfl (by kernel_rfl) (by kernel_rfl) (by kernel_rfl) (fun _ _ _ h=>h) (by kernel_rfl) hh ?_;simp only[Act.put]
   refine ba (i:=41) (oi:=_) rfl (by kernel_rfl) (by kernel_rfl) (by kernel_rfl) (fun _ _ _ h=>h) (by kernel_rfl) hh ?_;simp only[Act.put]
   refine aF (i:=42) (oi:=_) (v:=?_) rfl (by kernel_rfl) (by kernel_rfl) (by kernel_rfl) (fun _ _ _ h=>h) (by kernel_rfl) ?_ hh ?_;rotate_left
   ·intro w' hSw;obtain⟨s0,s1,s2,s3,s4,s5,s6,s7,s8⟩:=hSw;go_simp;try with_reducible rfl
   simp only[Act.put]
   refine wpAnyH_done (by kernel_rfl) ?_ _;go_simp;go_wp2;go_ret
   exact⟨aj (aw (fun q=>HN.out (HE.out.1 q.1).1)).symm,hBr.trans (q.mono hBr.size)⟩
  have HVB:pB (Btw D.vals (fs[k].locals+dv) 400)=true:=ay hV;have HV:Hid (Btw D.vals (fs[k].locals+dv) 400):=hV;clear hV;refine dB (i:=21) (o:=_) (by kernel_rfl) rfl (fun K hK=>?_);go_simp;go_at_call 45
  refine (a8 _ _ _ _).mono ?_;rintro e wz ⟨rfl,hw⟩;rw[hw,HVB];clear hw wz;refine hK.out _ _ hh ?_;clear hK K;try simp only[Act.put]
  refine aF (i:=22) (oi:=_) (v:=?_) rfl (by kernel_rfl) (by kernel_rfl) (by kernel_rfl) (fun _ _ _ h=>h) (by kernel_rfl) ?_ hh ?_;rotate_left
  ·intro w' hSw;obtain⟨s0,s1,s2,s3,s4,s5,s6,s7,s8⟩:=hSw;go_simp;try with_reducible rfl
  simp only[Act.put]
  refine aF (i:=23) (oi:=_) (v:=?_) rfl (by kernel_rfl) (by kernel_rfl) (by kernel_rfl) (fun _ _ _ h=>h) (by kernel_rfl) ?_ hh ?_;rotate_left
  ·intro w' hSw;obtain⟨s0,s1,s2,s3,s4,s5,s6,s7,s8⟩:=hSw;go_simp;try with_reducible rfl
  simp only[Act.put]
  refine aF (i:=24) (oi:=_) (v:=?_) rfl (by kernel_rfl) (by kernel_rfl) (by kernel_rfl) (fun _ _ _ h=>h) (by kernel_rfl) ?_ hh ?_;rotate_left
  ·intro w' hSw;obtain⟨s0,s1,s2,s3,s4,s5,s6,s7,s8⟩:=hSw;go_simp;try with_reducible rfl
  simp only[Act.put]
  refine aF (i:=25) (oi:=_) (v:=?_) rfl (by kernel_rfl) (by kernel_rfl) (by kernel_rfl) (fun _ _ _ h=>h) (by kernel_rfl) ?_ hh ?_;rotate_left
  ·intro w' hSw;obtain⟨s0,s1,s2,s3,s4,s5,s6,s7,s8⟩:=hSw;go_simp;try with_reducible rfl
  simp only[Act.put]
  refine aF (i:=26) (oi:=_) (v:=?_) rfl (by kernel_rfl) (by kernel_rfl) (by kernel_rfl) (fun _ _ _ h=>h) (by kernel_rfl) ?_ hh ?_;rotate_left
  ·intro w' hSw;obtain⟨s0,s1,s2,s3,s4,s5,s6,s7,s8⟩:=hSw;go_simp;try with_reducible rfl
  simp only[Act.put]
  by_cases hN:Btw D.nums 0 400
  case neg=>
   have HNB:pB (Btw D.nums 0 400)=false:=aw hN;have HN:Hid (¬Btw D.nums 0 400):=hN;clear hN;refine dB (i:=27) (o:=_) (by kernel_rfl) rfl (fun K hK=>?_);go_simp;go_at_call 45
   refine (a8 _ _ _ _).mono ?_;rintro e wz ⟨rfl,hw⟩;rw[hw,HNB];clear hw wz;refine hK.out _ _ hh ?_;clear hK K;try simp only[Act.put]
   refine aF (i:=28) (oi:=_) (v:=?_) rfl (by kernel_rfl) (by kernel_rfl) (by kernel_rfl) (fun _ _ _ h=>h) (by kernel_rfl) ?_ hh ?_;rotate_left
   ·intro w' hSw;obtain⟨s0,s1,s2,s3,s4,s5,s6,s7,s8⟩:=hSw;go_simp;try with_reducible rfl
   simp only[Act.put]
   refine aF (i:=29) (oi:=_) (v:=?_) rfl (by kernel_rfl) (by kernel_rfl) (by kernel_rfl) (fun _ _ _ h=>h) (by kernel_rfl) ?_ hh ?_;rotate_left
   ·intro w' hSw;obtain⟨s0,s1,s2,s3,s4,s5,s6,s7,s8⟩:=hSw;go_simp;try with_reducible rfl
   simp only[Act.put]
   refine aF (i:=30) (oi:=_) (v:=?_) rfl (by kernel_rfl) (by kernel_rfl) (by kernel_rfl) (fun _ _ _ h=>h) (by kernel_rfl) ?_ hh ?_;rotate_left
   ·intro w' hSw;obtain⟨s0,s1,s2,s3,s4,s5,s6,s7,s8⟩:=hSw;go_simp;try with_reducible rfl
   simp only[Act.put]
   refine ba (i:=31) (oi:=_) rfl (by kernel_rfl) (by kernel_rfl) (by kernel_rfl) (fun _ _ _ h=>h) (by kernel_rfl) hh ?_;simp only[Act.put]
   refine ba (i:=32) (oi:=_) rfl (by kernel_rfl) (by kernel_rfl) (by kernel_rfl) (fun _ _ _ h=>h) (by kernel_rfl) hh ?_;simp only[Act.put]
   refine ba (i:=33) (oi:=_) rfl (by kernel_rfl) (by kernel_rfl) (by kernel_rfl) (fun _ _ _ h=>h) (by kernel_rfl) hh ?_;simp only[Act.put]
   refine ba (i:=34) (oi:=_) rfl (by kernel_rfl) (by kernel_rfl) (by kernel_rfl) (fun _ _ _ h=>h) (by kernel_rfl) hh ?_;simp only[Act.put]
   refine ba (i:=35) (oi:=_) rfl (by kernel_rfl) (by kernel_rfl) (by kernel_rfl) (fun _ _ _ h=>h) (by kernel_rfl) hh ?_;simp only[Act.put]
   refine aF (i:=36) (oi:=_) (v:=?_) rfl (by kernel_rfl) (by kernel_rfl) (by kernel_rfl) (fun _ _ _ h=>h) (by kernel_rfl) ?_ hh ?_;rotate_left
   ·intro w' hSw;obtain⟨s0,s1,s2,s3,s4,s5,s6,s7,s8⟩:=hSw;go_simp;try with_reducible rfl
   simp only[Act.put]
   refine aF (i:=37) (oi:=_) (v:=?_) rfl (by kernel_rfl) (by kernel_rfl) (by kernel_rfl) (fun _ _ _ h=>h) (by kernel_rfl) ?_ hh ?_;rotate_left
   ·intro w' hSw;obtain⟨s0,s1,s2,s3,s4,s5,s6,s7,s8⟩:=hSw;go_simp;try with_reducible rfl
   simp only[Act.put]
   refine ba (i:=38) (oi:=_) rfl (by kernel_rfl) (by kernel_rfl) (by kernel_rfl) (fun _ _ _ h=>h) (by kernel_rfl) hh ?_;simp only[Act.put]
   refine ba (i:=39) (oi:=_) rfl (by kernel_rfl) (by kernel_rfl) (by kernel_rfl) (fun _ _ _ h=>h) (by kernel_rfl) hh ?_;simp only[Act.put]
   refine ba (i:=40) (oi:=_) rfl (by kernel_rfl) (by kernel_rfl) (by kernel_rfl) (fun _ _ _ h=>h) (by kernel_rfl) hh ?_;simp only[Act.put]
   refine ba (i:=41) (oi:=_) rfl (by kernel_rfl) (by kernel_rfl) (by kernel_rfl) (fun _ _ _ h=>h) (by kernel_rfl) hh ?_;simp only[Act.put]
   refine aF (i:=42) (oi:=_) (v:=?_) rfl (by kernel_rfl) (by kernel_rfl) (by kernel_rfl) (fun _ _ _ h=>h) (by kernel_rfl) ?_ hh ?_;rotate_left
   ·intro w' hSw;obtain⟨s0,s1,s2,s3,s4,s5,s6,s7,s8⟩:=hSw;go_simp;try with_reducible rfl
   simp only[Act.put]
   refine wpAnyH_done (by kernel_rfl) ?_ _;go_simp;go_wp2;go_ret
   exact⟨aj (aw (fun q=>HN.out (HE.out.1 q.1).2)).symm,hBr.trans (q.mono hBr.size)⟩
  have HNB:pB (Btw D.nums 0 400)=true:=ay hN;have HNN:Hid (Btw D.nums 0 400):=hN;clear hN;refine dB (i:=27) (o:=_) (by kernel_rfl) rfl (fun K hK=>?_);go_simp;go_at_call 45
  refine (a8 _ _ _ _).mono ?_;rintro e wz ⟨rfl,hw⟩;rw[hw,HNB];clear hw wz;refine hK.out _ _ hh ?_;clear hK K;try simp only[Act.put]
  refine aF (i:=28) (oi:=_) (v:=?_) rfl (by kernel_rfl) (by kernel_rfl) (by kernel_rfl) (fun _ _ _ h=>h) (by kernel_rfl) ?_ hh ?_;rotate_left
  ·intro w' hSw;obtain⟨s0,s1,s2,s3,s4,s5,s6,s7,s8⟩:=hSw;go_simp;try with_reducible rfl
  simp only[Act.put]
  refine aF (i:=29) (oi:=_) (v:=?_) rfl (by kernel_rfl) (by kernel_rfl) (by kernel_rfl) (fun _ _ _ h=>h) (by kernel_rfl) ?_ hh ?_;rotate_left
  ·intro w' hSw;obtain⟨s0,s1,s2,s3,s4,s5,s6,s7,s8⟩:=hSw;go_simp;try with_reducible rfl
  simp only[Act.put]
  refine aF (i:=30) (oi:=_) (v:=?_) rfl (by kernel_rfl) (by kernel_rfl) (by kernel_rfl) (fun _ _ _ h=>h) (by kernel_rfl) ?_ hh ?_;rotate_left
  ·intro w' hSw;obtain⟨s0,s1,s2,s3,s4,s5,s6,s7,s8⟩:=hSw;go_simp;try with_reducible rfl
  simp only[Act.put]
  refine aF (i:=31) (oi:=_) (v:=?_) rfl (by kernel_rfl) (by kernel_rfl) (by kernel_rfl) (fun _ _ _ h=>h) (by kernel_rfl) ?_ hh ?_;rotate_left
  ·intro w' hSw;obtain⟨s0,s1,s2,s3,s4,s5,s6,s7,s8⟩:=hSw;go_simp;try with_reducible rfl
  simp only[Act.put]
  refine aF (i:=32) (oi:=_) (v:=?_) rfl (by kernel_rfl) (by kernel_rfl) (by kernel_rfl) (fun _ _ _ h=>h) (by kernel_rfl) ?_ hh ?_;rotate_left
  ·intro w' hSw;obtain⟨s0,s1,s2,s3,s4,s5,s6,s7,s8⟩:=hSw;go_simp;try with_reducible rfl
  simp only[Act.put]
  refine aF (i:=33) (oi:=_) (v:=?_) rfl (by kernel_rfl) (by kernel_rfl) (by kernel_rfl) (fun _ _ _ h=>h) (by kernel_rfl) ?_ hh ?_;rotate_left
  ·intro w' hSw;obtain⟨s0,s1,s2,s3,s4,s5,s6,s7,s8⟩:=hSw;go_simp;try with_reducible rfl
  simp only[Act.put]
  by_cases hO:Btw (D.ops.length:Int) 1 1500
  case neg=>
   have HOB:pB (Btw (D.ops.length:Int) 1 1500)=false:=aw hO;have HN:Hid (¬Btw (D.ops.length:Int) 1 1500):=hO;clear hO;refine dB (i:=34) (o:=_) (by kernel_rfl) rfl (fun K hK=>?_);go_simp;go_at_call 45
   refine (a8 _ _ _ _).mono ?_;rintro e wz ⟨rfl,hw⟩;rw[hw,HOB];clear hw wz;refine hK.out _ _ hh ?_;clear hK K;try simp only[Act.put]
   refine aF (i:=35) (oi:=_) (v:=?_) rfl (by kernel_rfl) (by kernel_rfl) (by kernel_rfl) (fun _ _ _ h=>h) (by kernel_rfl) ?_ hh ?_;rotate_left
   ·intro w' hSw;obtain⟨s0,s1,s2,s3,s4,s5,s6,s7,s8⟩:=hSw;go_simp;try with_reducible rfl
   simp only[Act.put]
   refine aF (i:=36) (oi:=_) (v:=?_) rfl (by kernel_rfl) (by kernel_rfl) (by kernel_rfl) (fun _ _ _ h=>h) (by kernel_rfl) ?_ hh ?_;rotate_left
   ·intro w' hSw;obtain⟨s0,s1,s2,s3,s4,s5,s6,s7,s8⟩:=hSw;go_simp;try with_reducible rfl
   simp only[Act.put]
   refine aF (i:=37) (oi:=_) (v:=?_) rfl (by kernel_rfl) (by kernel_rfl) (by kernel_rfl) (fun _ _ _ h=>h) (by kernel_rfl) ?_ hh ?_;rotate_left
   ·intro w' hSw;obtain⟨s0,s1,s2,s3,s4,s5,s6,s7,s8⟩:=hSw;go_simp;try with_reducible rfl
   simp only[Act.put]
   refine ba (i:=38) (oi:=_) rfl (by kernel_rfl) (by kernel_rfl) (by kernel_rfl) (fun _ _ _ h=>h) (by kernel_rfl) hh ?_;simp only[Act.put]
   refine ba (i:=39) (oi:=_) rfl (by kernel_rfl) (by kernel_rfl) (by kernel_rfl) (fun _ _ _ h=>h) (by kernel_rfl) hh ?_;simp only[Act.put]
   refine ba (i:=40) (oi:=_) rfl (by kernel_rfl) (by kernel_rfl) (by kernel_rfl) (fun _ _ _ h=>h) (by kernel_rfl) hh ?_;simp only[Act.put]
   refine ba (i:=41) (oi:=_) rfl (by kernel_rfl) (by kernel_rfl) (by kernel_rfl) (fun _ _ _ h=>h) (by kernel_rfl) hh ?_;simp only[Act.put]
   refine aF (i:=42) (oi:=_) (v:=?_) rfl (by kernel_rfl) (by kernel_rfl) (by kernel_rfl) (fun _ _ _ h=>h) (by kernel_rfl) ?_ hh ?_;rotate_left
   ·intro w' hSw;obtain⟨s0,s1,s2,s3,s4,s5,s6,s7,s8⟩:=hSw;go_simp;try with_reducible rfl
   simp only[Act.put]
   refine wpAnyH_done (by kernel_rfl) ?_ _;go_simp;go_wp2;go_ret
   exact⟨aj (aw (fun q=>HN.out ⟨by have:=q.2.1.1.1;omega,by have:=q.2.1.1.2;omega⟩)).symm,hBr.trans (q.mono hBr.size)⟩
  have HOB:pB (Btw (D.ops.length:Int) 1 1500)=true:=ay hO;have HO:Hid (Btw (D.ops.length:Int) 1 1500):=hO;clear hO;refine dB (i:=34) (o:=_) (by kernel_rfl) rfl (fun K hK=>?_);go_simp;go_at_call 45
  refine (a8 _ _ _ _).mono ?_;rintro e wz ⟨rfl,hw⟩;rw[hw,HOB];clear hw wz;refine hK.out _ _ hh ?_;clear hK K;try simp only[Act.put]
  refine aF (i:=35) (oi:=_) (v:=?_) rfl (by kernel_rfl) (by kernel_rfl) (by kernel_rfl) (fun _ _ _ h=>h) (by kernel_rfl) ?_ hh ?_;rotate_left
  ·intro w' hSw;obtain⟨s0,s1,s2,s3,s4,s5,s6,s7,s8⟩:=hSw;go_simp;try with_reducible rfl
  simp only[Act.put]
  refine aF (i:=36) (oi:=_) (v:=?_) rfl (by kernel_rfl) (by kernel_rfl) (by kernel_rfl) (fun _ _ _ h=>h) (by kernel_rfl) ?_ hh ?_;rotate_left
  ·intro w' hSw;obtain⟨s0,s1,s2,s3,s4,s5,s6,s7,s8⟩:=hSw;go_simp;try with_reducible rfl
  simp only[Act.put]
  refine aF (i:=37) (oi:=_) (v:=?_) rfl (by kernel_rfl) (by kernel_rfl) (by kernel_rfl) (fun _ _ _ h=>h) (by kernel_rfl) ?_ hh ?_;rotate_left
  ·intro w' hSw;obtain⟨s0,s1,s2,s3,s4,s5,s6,s7,s8⟩:=hSw;go_simp;try with_reducible rfl
  simp only[Act.put]
  refine aF (i:=38) (oi:=_) (v:=?_) rfl (by kernel_rfl) (by kernel_rfl) (by kernel_rfl) (fun _ _ _ h=>h) (by kernel_rfl) ?_ hh ?_;rotate_left
  ·intro w' hSw;obtain⟨s0,s1,s2,s3,s4,s5,s6,s7,s8⟩:=hSw;go_simp;try with_reducible rfl
  simp only[Act.put]
  refine aF (i:=39) (oi:=_) (v:=?_) rfl (by kernel_rfl) (by kernel_rfl) (by kernel_rfl) (fun _ _ _ h=>h) (by kernel_rfl) ?_ hh ?_;rotate_left
  ·intro w' hSw;obtain⟨s0,s1,s2,s3,s4,s5,s6,s7,s8⟩:=hSw;go_simp;try with_reducible rfl
  simp only[Act.put]
  refine aF (i:=40) (oi:=_) (v:=?_) rfl (by kernel_rfl) (by kernel_rfl) (by kernel_rfl) (fun _ _ _ h=>h) (by kernel_rfl) ?_ hh ?_;rotate_left
  ·intro w' hSw;obtain⟨s0,s1,s2,s3,s4,s5,s6,s7,s8⟩:=hSw;go_simp;try with_reducible rfl
  simp only[Act.put]
  by_cases hX:D.exits.length<=1500
  case neg=>
   have g5:(1500:Int)<(D.exits.length:Int):=by omega
   have HN:Hid (¬D.exits.length<=1500):=hX;clear hX;refine aF (i:=41) (oi:=_) (v:=?_) rfl (by kernel_rfl) (by kernel_rfl) (by kernel_rfl) (fun _ _ _ h=>h) (by kernel_rfl) ?_ hh ?_;rotate_left
   ·intro w' hSw;obtain⟨s0,s1,s2,s3,s4,s5,s6,s7,s8⟩:=hSw;go_simp;try with_reducible rfl
   simp only[Act.put]
   refine aF (i:=42) (oi:=_) (v:=?_) rfl (by kernel_rfl) (by kernel_rfl) (by kernel_rfl) (fun _ _ _ h=>h) (by kernel_rfl) ?_ hh ?_;rotate_left
   ·intro w' hSw;obtain⟨s0,s1,s2,s3,s4,s5,s6,s7,s8⟩:=hSw;go_simp;try with_reducible rfl
   simp only[Act.put]
   refine wpAnyH_done (by kernel_rfl) ?_ _;go_simp;go_wp2;go_ret
   exact⟨aj (aw (fun q=>HN.out q.2.2.1)).symm,hBr.trans (q.mono hBr.size)⟩
  have g5:¬(1500:Int)<(D.exits.length:Int):=by omega
  have HX:Hid (D.exits.length<=1500):=hX;clear hX;refine aF (i:=41) (oi:=_) (v:=?_) rfl (by kernel_rfl) (by kernel_rfl) (by kernel_rfl) (fun _ _ _ h=>h) (by kernel_rfl) ?_ hh ?_;rotate_left
  ·intro w' hSw;obtain⟨s0,s1,s2,s3,s4,s5,s6,s7,s8⟩:=hSw;go_simp;try with_reducible rfl
  simp only[Act.put]
  refine aF (i:=42) (oi:=_) (v:=?_) rfl (by kernel_rfl) (by kernel_rfl) (by kernel_rfl) (fun _ _ _ h=>h) (by kernel_rfl) ?_ hh ?_;rotate_left
  ·intro w' hSw;obtain⟨s0,s1,s2,s3,s4,s5,s6,s7,s8⟩:=hSw;go_simp;try with_reducible rfl
  simp only[Act.put]
  refine wpAnyH_done (by kernel_rfl) ?_ _;go_simp;have hFd:=ab hFr q;have hMd:=ab hMr q;have hBd:=hBr.trans (q.mono hBr.size);clear hh HS HVB HNB HOB hFr hMr;rw[HKF.out,HEE.out] at hFd;obtain⟨wC,hwC⟩:∃wC,wC=wd.alloc (.cells #[.slice a1 ts.length c1,.slice (some ⟨bf,of,none⟩) fs.length c2,.int .i64 (k:Int),.int .i64 (en:Int),.int .i64 D.vals,.int .i64 D.nums,.slice oa D.ops.length oc,.slice ea D.exits.length ec,.bool false] 167):=⟨_,rfl⟩;have hbC:Below wd.heap.size wd wC:=by rw[hwC];exact gM.alloc nL _
  have hCh:Chk a1 (some ⟨bf,of,none⟩) oa ea ts.length c1 c2 oc ec fs.length wd.heap.size D wd false wC:=⟨by rw[hwC];unfold eZ;rw[HKF.out,HEE.out];exact ah _ _ _,hbC⟩;have hFC:=ab hFd hbC;have hneF:w.heap.size+1≠wd.heap.size:=by have:=aq hFd;omega
  have L:SLim fs D wd.heap.size wd (some ⟨bf,of,none⟩) oa ea:=⟨rfl,hnf,hs.code,⟨by have:=HV.out.1;have:=HLOC.out;omega,HV.out.2⟩,⟨HNN.out.1,HNN.out.2⟩,hd.1.1,hd.2.1,hm2.mono hBd,hf.ops.mono hBd,hf.exits.mono hBd,hd,fun k hk=>cy hmod hk⟩;have fx:=aa hFd;have mx:=aa hMd;have hBC:=hBd.trans (hbC.mono hBd.size);clear hMd hFd q;have hol:=hd.1.1;have hel:=hd.2.1;go_wp2;rw[<-hwC];clear hwC fx mx;go_loopw [9] (fun i wr=>∃(j:Nat),j<=D.ops.length/\i=.int .i64 j/\Chk a1 (some ⟨bf,of,none⟩) oa ea ts.length c1 c2 oc ec fs.length wd.heap.size D wd (false || !pB (dw fs D j)) wr/\Rk wd.heap.size wC wr) (fun i _=>D.ops.length-(intOf i).toNat)
  case atStart=>exact⟨0,by omega,rfl,by rw[ay dw.zero];simpa using hCh,Rk.refl _ _⟩
  case round=>
   obtain⟨j,hj,rfl,hC,hR⟩:=hrel;have hFw:=ak hFC hneF hR;have fx:=aa hFw;clear hCh;by_cases hlt:j<D.ops.length
   case pos=>
    have zj:(j:Int)<(D.ops.length:Int):=by omega
    go_wp2_with fail
    refine (sOp_any j hlt L hC).mono ?_;rintro e w2 ⟨rfl,hC2,hr⟩;clear fx hFw;go_wp2;go_roundw
    case rel=>exact⟨j+1,by omega,by go_num,hC2.both.iff (dw.more hlt),hR.trans hr⟩
    case measure=>simp[intOf];omega
   obtain rfl:j=D.ops.length:=by omega
   have z3:¬(D.ops.length:Int)<(D.ops.length:Int):=by omega
   clear hlt;go_wp2;obtain⟨wp,rfl⟩:∃wp,wp=wr:=⟨_,rfl⟩;go_loopw [10] (fun i wr=>∃(j:Nat),j<=D.exits.length/\i=.int .i64 j/\Chk a1 (some ⟨bf,of,none⟩) oa ea ts.length c1 c2 oc ec fs.length wd.heap.size D wd ((false || !pB (dw fs D D.ops.length)) || !pB (dD fs D j)) wr/\Rk wd.heap.size wC wr) (fun i _=>D.exits.length-(intOf i).toNat)
   case atStart=>exact⟨0,by omega,rfl,by rw[ay dD.zero];simpa using hC,hR⟩
   case round=>
    obtain⟨j,hj2,rfl,hC2,hR2⟩:=hrel;clear fx hFw;have hFw:=ak hFC hneF hR2;have fx:=aa hFw;clear hC hR;by_cases hlt:j<D.exits.length
    case pos=>
     have zj:(j:Int)<(D.exits.length:Int):=by omega
     obtain⟨be,oe,fa,fc,ra,rc,hea,-,e0,e1,e2,e3,e4,e5,e6,p0,p1⟩:=L.exits j hlt
     cases hea;have E0:=cell_later hC2.bel e0;have E1:=cell_later hC2.bel e1;have E2:=cell_later hC2.bel e2;have E3:=cell_later hC2.bel e3;have E4:=cell_later hC2.bel e4;have E5:=cell_later hC2.bel e5;have E6:=cell_later hC2.bel e6;clear e0 e1 e2 e3 e4 e5 e6;go_wp2_with fail
     refine (kLeave_any D.exits[j] (hd.2.2 _ (n_l hlt)) p0 p1 L hC2).mono ?_;rintro e w2 ⟨rfl,hC3,hr⟩;clear fx hFw E0 E1 E2 E3 E4 E5 E6;go_wp2;go_roundw
     case rel=>exact⟨j+1,by omega,by go_num,hC3.both.iff (dD.more hlt),hR2.trans hr⟩
     case measure=>simp[intOf];omega
    obtain rfl:j=D.exits.length:=by omega
    have z4:¬(D.exits.length:Int)<(D.exits.length:Int):=by omega
    have hB4:Below w.heap.size w wr:=hBd.trans (hC2.bel.mono hBd.size);clear hlt;obtain⟨n',hn'⟩:∃n',D.ops.length=n'+1:=⟨D.ops.length-1,by have:=HO.out.1;omega⟩;have hnl:n'<D.ops.length:=by omega
    obtain⟨bo,oo,hoa,-,o0,-⟩:=L.ops n' hnl
    cases hoa;have O0:=cell_later hC2.bel o0;have hwn:IntKind.i64.wrap ((D.ops.length:Int)-1)=(n':Int):=by rw[IntKind.wrap_i64];omega
    have v0:(0:Int)<=(n':Int):=by omega
    have v1:(n':Int)<(D.ops.length:Int):=by omega
    have HNP:Hid (D.ops.length=n'+1):=hn';obtain⟨lo,hlo⟩:∃lo,lo=D.ops[n'].op:=⟨_,rfl⟩;rw[<-hlo] at O0;have HLO:Hid (lo=D.ops[n'].op):=hlo;have HOPS:Hid (OpsP fs D↔eH lo/\dw fs D D.ops.length):=by
     show _↔_
     have e1:D.ops.length-1=n':=by omega
     unfold OpsP;simp only[e1]
     exact⟨fun q=>⟨by rw[HLO.out];exact q.2.1.2,fun i h _=>q.2.2 i h⟩,fun q=>⟨⟨by have:=HO.out.1;omega,by have:=HO.out.2;omega⟩,⟨hnl,by rw[<-HLO.out];exact q.1⟩,fun i h=>q.2 i h h⟩⟩
    have HEX:Hid (ew fs D↔dD fs D D.exits.length):=⟨fun q i h _=>q.2 i h,fun q=>⟨HX.out,fun i h=>q i h h⟩⟩;have HEN2:Hid (cq fs D):=HE.out.2 ⟨HV.out,HNN.out⟩;have kc:=hC2.cells;clear o0 hn' hlo;by_cases hall:dw fs D D.ops.length/\dD fs D D.exits.length
    case neg=>
     have hbad:((false || !pB (dw fs D D.ops.length)) || !pB (dD fs D D.exits.length))=true:=by
      rw[or_pB];rw[aw hall];rfl
     rw[hbad] at kc;have HN:Hid (¬(dw fs D D.ops.length/\dD fs D D.exits.length)):=hall;clear hall hbad;go_wp2;go_ret
     exact⟨aj (aw (fun q=>HN.out ⟨(HOPS.out.1 q.2.1).2,HEX.out.1 q.2.2⟩)).symm,hB4⟩
    have hbad:((false || !pB (dw fs D D.ops.length)) || !pB (dD fs D D.exits.length))=false:=by
     rw[or_pB];rw[ay hall];rfl
    rw[hbad] at kc;have HA:Hid (dw fs D D.ops.length/\dD fs D D.exits.length):=hall;clear hall hbad;have fin:∀b:Bool,(b=true↔eH lo)->Ending.returned (.bool b)=.returned (.bool (pB (cq fs D/\OpsP fs D/\ew fs D))):=fun b h=>bx (h.trans ⟨fun q=>⟨HEN2.out,HOPS.out.2 ⟨q,HA.out.1⟩,HEX.out.2 HA.out.2⟩,fun q=>(HOPS.out.1 q.2.1).1⟩)
    have FIN:Hid (∀b:Bool,(b=true↔eH lo)->Ending.returned (.bool b)=.returned (.bool (pB (cq fs D/\OpsP fs D/\ew fs D)))):=fin;clear fin;by_cases l1:lo=23
    case pos=>
     subst l1;go_wp2;go_ret
     exact⟨FIN.out true ⟨fun _=>.inl rfl,fun _=>rfl⟩,hB4⟩
    by_cases l2:lo=26
    case pos=>
     subst l2;go_wp2;go_ret
     exact⟨FIN.out true ⟨fun _=>.inr (.inl rfl),fun _=>rfl⟩,hB4⟩
    by_cases l3:lo=27
    case pos=>
     subst l3;go_wp2;go_ret
     exact⟨FIN.out true ⟨fun _=>.inr (.inr rfl),fun _=>rfl⟩,hB4⟩
    have g1:(lo == 23)=false:=by simpa using l1
    have g2:(lo == 26)=false:=by simpa using l2
    have g3:(lo == 27)=false:=by simpa using l3
    have HNO:Hid (¬eH lo):=fun q=>by
     rcases q with q | q | q
     ·exact l1 q
     ·exact l2 q
     ·exact l3 q
    clear l1 l2 l3;go_wp2;go_ret
    exact⟨FIN.out false ⟨fun q=>(by cases q),fun q=>absurd q HNO.out⟩,hB4⟩
end
end Go.Proofs.YtdlkbbgmjilccaaGreatDoor
