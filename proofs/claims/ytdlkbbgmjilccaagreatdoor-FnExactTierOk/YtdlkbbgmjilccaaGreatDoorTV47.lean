/- TV47 -/
import Derived.Test.YtdlkbbgmjilccaaGreatDoorTV36
import Derived.Test.YtdlkbbgmjilccaaGreatDoorTV37
import Derived.Test.YtdlkbbgmjilccaaGreatDoorTV46
set_option maxHeartbeats 32000000
set_option maxRecDepth 100000
namespace Go.Proofs.YtdlkbbgmjilccaaGreatDoor
open Go.RowKit
def plC (x:aH):Int×Int:=(x.fn,x.entry)
def plF (x:Si):Int×Int:=(x.f,x.pc)
theorem nodup_step{α:Type}{qs:List α}{k:Nat}(h:k<qs.length)(h1:(qs.take k).Nodup)(h2:∀j (hj:j<k),qs[j]'(by omega)≠qs[k]):(qs.take (k+1)).Nodup:=by
 rw[List.take_succ_eq_append_getElem h,List.nodup_append];refine⟨h1,by simp,fun x hx y hy=>?_⟩;rw[List.mem_singleton.1 hy];obtain⟨j,hj,rfl⟩:=List.getElem_of_mem hx;rw[List.length_take] at hj;rw[List.getElem_take];exact h2 j (by omega)
theorem not_nodup{α:Type}{qs:List α}{j k:Nat}(hk:k<qs.length)(hj:j<k)(h:qs[j]'(by omega)=qs[k]):¬qs.Nodup:=by
 intro hn;have:=List.pairwise_iff_getElem.1 hn j k (by omega) hk hj;exact this h
def fE (ts:List ByteArray)(fs:List Fn)(D:TrD):Prop:=(Room D.vm/\bA fs D.vm/\Vals fs.length D.vm)/\ek fs D.sites/\dW ts fs D.codes/\ex fs D.fails D.guards/\0<=D.entered/\D.entered<=1000000000
theorem s17Ok_any(a1 a2 fa ha oa sa ca la:Option Addr)(c1 c2 fc hc oc sc cc lc:Nat)(ts:List ByteArray)(fs:List Fn)(D:TrD)(w:World)(hs:b9 ts fs)(hd:cC D)(hG:Good ts fs)(hfn:FnsAt w 0 a2 fs)(ht:TrAt w 0 fa ha oa sa ca la D) :
  Calls Tryz.prog 19 #[.agg #[.slice a1 ts.length c1,.slice a2 fs.length c2],.agg (bD fa ha oa fc hc oc sa sc ca cc la lc D)] w fun e w'=>e=.returned (.bool (pB (fE ts fs D)))/\Below w.heap.size w w':=by
 obtain⟨r,hr⟩:∃r,r=pB (fE ts fs D):=⟨_,rfl⟩;rw[<-hr];have HR:Hid (r=pB (fE ts fs D)):=hr;clear hr;unfold bD;obtain⟨W,hW⟩:∃W,W=(w.alloc (.cells #[.slice a1 ts.length c1,.slice a2 fs.length c2] 42)).alloc (.cells #[.slice fa D.vm.frames.length fc,.slice ha D.vm.heap.length hc,.int .i64 D.vm.made,.slice oa D.vm.out.length oc,.int .i64 D.vm.status,.int .i64 D.vm.trap,.int .i64 D.vm.value.k,.int .i64 D.vm.value.n,.string D.vm.value.s,.int .i64 D.vm.steps,.slice sa D.sites.length sc,.slice ca D.codes.length cc,.slice la D.fails.length lc,.int .i64 D.guards,.int .i64 D.entered] 53):=⟨_,rfl⟩;have hbW:Below w.heap.size w W:=by rw[hW];exact (gM.alloc nL _).alloc (by simp) _
 have hX:W.heap[w.heap.size]?=some (.cells #[.slice a1 ts.length c1,.slice a2 fs.length c2] 42 (0,0)):=by rw[hW];exact al (ah _ _ _) _
 have hY:W.heap[w.heap.size+1]?=some (.cells #[.slice fa D.vm.frames.length fc,.slice ha D.vm.heap.length hc,.int .i64 D.vm.made,.slice oa D.vm.out.length oc,.int .i64 D.vm.status,.int .i64 D.vm.trap,.int .i64 D.vm.value.k,.int .i64 D.vm.value.n,.string D.vm.value.s,.int .i64 D.vm.steps,.slice sa D.sites.length sc,.slice ca D.codes.length cc,.slice la D.fails.length lc,.int .i64 D.guards,.int .i64 D.entered] 53 (0,0)):=by rw[hW];exact ax _ _ _ _ (by simp)
 have FF:∀k (hk:k<fs.length),Fine fs fs[k].code:=fun k hk=>cy hG.ok hk
 have hv:=sVm_any a1 a2 ts.length c1 c2 fs fa ha oa fc hc oc D.vm W hs.funcs hd.vm (ht.vm.mono hbW) (hfn.mono hbW) FF;unfold aQ at hv;have HV:=hidz hv;have HP:Hid (∀w',Below w.heap.size w w'->Calls Tryz.prog 44 #[.agg #[.slice a1 ts.length c1,.slice a2 fs.length c2],.slice sa D.sites.length sc] w' fun e w''=>e=.returned (.bool (pB (ek fs D.sites)))/\Below w'.heap.size w' w''):=fun w' h=>l07Ok_any a1 a2 ts.length c1 c2 fs sa sc D.sites w' hd.sites hs.funcs hs.code (hfn.mono h) (ht.sites.mono h)
 have HC:Hid (∀(x:aH) (a0 a3:Option Addr) (c0 c3:Nat) (w':World),bI x->Below w.heap.size w w'->ev w' 0 a0 a3 x->Calls Tryz.prog 46 #[.agg #[.slice a1 ts.length c1,.slice a2 fs.length c2],.agg #[.int .i64 x.fn,.int .i64 x.entry,.int .i64 x.vals,.int .i64 x.nums,.slice a0 x.ops.length c0,.slice a3 x.exits.length c3]] w' fun e w''=>e=.returned (.bool (pB (FastP ts fs x)))/\Below w'.heap.size w' w''):=fun x a0 a3 c0 c3 w' hx h hf=>by
  have q:=sL10_any (w:=w') a1 a2 a0 a3 c1 c2 c0 c3 hs hx hG (hfn.mono h) hf;unfold bX at q;refine q.mono ?_;rintro e w'' ⟨rfl,hb⟩;refine⟨?_,hb⟩;by_cases hp:cq fs x/\OpsP fs x/\ew fs x
  ·rw[ay hp,ay (show FastP ts fs x from ⟨hG,hp⟩)]
  ·rw[aw hp,aw (fun h:FastP ts fs x=>hp h.2)]
 have HF:Hid (∀(x:Si) (w':World),Below w.heap.size w w'->Calls Tryz.prog 47 #[.agg #[.slice a1 ts.length c1,.slice a2 fs.length c2],.agg #[.int .i64 x.f,.int .i64 x.pc,.int .i64 x.seen,.int .i64 x.target]] w' fun e w''=>e=.returned (.bool (pB (FailP fs x)))/\Below w'.heap.size w' w''):=fun x w' h=>s17Fail_any a1 a2 ts.length c1 c2 fs x.f x.pc x.seen x.target w' hs.funcs hs.code (hfn.mono h)
 have HX:=hidz hX;have HY:=hidz hY;have HB:=hidz hbW;have HCA:=hidz ht.codes;have HFA:=hidz ht.fails;have HSM:=hidz hd;have x0:=aa hX;have y0:=aa hY;clear hbW hX hY hv hs hd hG hfn ht FF;go_enter Tryz.func19,Tryz.ntmps19
 go_upto_region 1 with fail
 rw[<-hW];clear hW;go_wp2_with fail
 refine HV.out.mono ?_;rintro e w1 ⟨hsay,hb1⟩;obtain rfl:=hsay.eq;clear hsay HV x0 y0;have HX1:=hidz (ab HX.out hb1);have HY1:=hidz (ab HY.out hb1);have HB1:=hidz (HB.out.trans (hb1.mono HB.out.size));clear HX HY HB hb1;have HX:=HX1;have HY:=HY1;have HB:=HB1;clear HX1 HY1 HB1;have x0:=aa HX.out;have y0:=aa HY.out;by_cases h1:Room D.vm/\bA fs D.vm/\Vals fs.length D.vm
 case neg=>
  rw[aw h1];have HQ:Hid (r=false):=by show _=_;rw[HR.out];exact aw (fun h=>h1 h.1)
  clear h1;go_wp2;go_ret
  exact⟨aj (by rw[HQ.out]),HB.out⟩
 have H1:=hidz h1;rw[ay h1];clear h1;go_wp2_with fail
 refine (HP.out _ HB.out).mono ?_;rintro e w2 ⟨rfl,hb2⟩;clear x0 y0;have HX2:=hidz (ab HX.out hb2);have HY2:=hidz (ab HY.out hb2);have HB2:=hidz (HB.out.trans (hb2.mono HB.out.size));clear HX HY HB hb2;have HX:=HX2;have HY:=HY2;have HB:=HB2;clear HX2 HY2 HB2;have x0:=aa HX.out;have y0:=aa HY.out;by_cases h2:ek fs D.sites
 case neg=>
  rw[aw h2];have HQ:Hid (r=false):=by show _=_;rw[HR.out];exact aw (fun h=>h2 h.2.1)
  clear h2;go_wp2;go_ret
  exact⟨aj (by rw[HQ.out]),HB.out⟩
 have H2:=hidz h2;rw[ay h2];clear h2;by_cases h3:D.codes.length<=8
 case neg=>
  have g3:(8:Int)<(D.codes.length:Int):=by omega
  have HQ:Hid (r=false):=by show _=_;rw[HR.out];exact aw (fun h=>h3 h.2.2.1.1)
  clear h3;go_wp2;go_ret
  exact⟨aj (by rw[HQ.out]),HB.out⟩
 have g3:¬(8:Int)<(D.codes.length:Int):=by omega
 have H3:=hidz h3;clear h3;by_cases h4:D.fails.length<=150
 case neg=>
  have g4:(150:Int)<(D.fails.length:Int):=by omega
  have HQ:Hid (r=false):=by show _=_;rw[HR.out];exact aw (fun h=>h4 h.2.2.2.1.1)
  clear h4;go_wp2;go_ret
  exact⟨aj (by rw[HQ.out]),HB.out⟩
 have g4:¬(150:Int)<(D.fails.length:Int):=by omega
 have H4:=hidz h4;clear h4;by_cases h5:0<=D.entered/\D.entered<=1000000000
 case neg=>
  have HQ:Hid (r=false):=by show _=_;rw[HR.out];exact aw (fun h=>h5 h.2.2.2.2)
  have hbn:=a9 (n:=D.entered) (lo:=0) (hi:=1000000000) h5;clear h5;go_wp2_with fail
  refine (hbn _).mono ?_;rintro e w9 ⟨rfl,hw9⟩;rw[hw9];clear hw9 w9;go_wp2;go_ret
  exact⟨aj (by rw[HQ.out]),HB.out⟩
 have H5:=hidz h5;have hbn:=aE (n:=D.entered) (lo:=0) (hi:=1000000000) h5;clear h5;go_wp2_with fail
 refine (hbn _).mono ?_;rintro e w9 ⟨rfl,hw9⟩;rw[hw9];clear hw9 w9 hbn;have HSY:Hid (∀w',Below w2.heap.size w2 w'->w'.cell? ⟨w.heap.size,0,none⟩=some (.slice a1 ts.length c1)/\w'.cell? ⟨w.heap.size,1,none⟩=some (.slice a2 fs.length c2)/\w'.cell? ⟨w.heap.size+1,11,none⟩=some (.slice ca D.codes.length cc)/\w'.cell? ⟨w.heap.size+1,12,none⟩=some (.slice la D.fails.length lc)/\w'.cell? ⟨w.heap.size+1,13,none⟩=some (.int .i64 D.guards)):=fun w' h=>⟨by rw[aa (ab HX.out h)];rfl,by rw[aa (ab HX.out h)];rfl,by rw[aa (ab HY.out h)];rfl,by rw[aa (ab HY.out h)];rfl,by rw[aa (ab HY.out h)];rfl⟩
 clear x0 y0 HX HY;obtain⟨y1,y2,y3,y4,y5⟩:=HSY.out w2 gM;go_wp2_with fail
 clear y1 y2 y3 y4 y5 g3 g4;go_loopw [5,6] (fun iv _kv wr=>∃(i:Nat),i<=D.codes.length/\iv=.int .i64 i/\Hid (∀x∈D.codes.take i,FastP ts fs x)/\Hid (((D.codes.map plC).take i).Nodup)/\Below w2.heap.size w2 wr) (fun iv _ _=>D.codes.length-(intOf iv).toNat)
 case atStart=>exact⟨0,by omega,rfl,(by intro f hf;simp at hf),(by show (List.take 0 _).Nodup;simp),Below.refl _ _⟩
 case round=>
  obtain⟨i,hi,rfl,hall,hnd,hbr⟩:=hrel;obtain⟨y1,y2,y3,y4,y5⟩:=HSY.out wr hbr;have HBR:=hidz hbr;have HBB:=hidz (HB.out.trans (hbr.mono HB.out.size));clear hbr;by_cases hlt:i<D.codes.length
  case neg=>
   have HE:Hid (∀x∈D.codes,FastP ts fs x):=by
    have:=hall.out;rwa [List.take_of_length_le (by omega)] at this
   have HND:Hid ((D.codes.map plC).Nodup):=by
    have:=hnd.out;rwa [List.take_of_length_le (by rw[List.length_map];omega)] at this
   have HCP:Hid (dW ts fs D.codes):=⟨H3.out,HND.out,HE.out⟩;have HBR0:=HBR;clear HE HND HBR hall hnd;go_wp2_with fail
   clear y1 y2 y3 y4 y5;go_loopw [7,8,9] (fun sv iv _kv wr=>∃(i:Nat),i<=D.fails.length/\iv=.int .i64 i/\Hid (∀x∈D.fails.take i,FailP fs x)/\Hid (((D.fails.map plF).take i).Nodup)/\sv=.int .i64 (sumC (D.fails.take i))/\Below w2.heap.size w2 wr) (fun _ iv _ _=>D.fails.length-(intOf iv).toNat)
   case atStart=>exact⟨0,by omega,rfl,(by intro f hf;simp at hf),(by show (List.take 0 _).Nodup;simp),rfl,HBR0.out⟩
   case round=>
    obtain⟨i,hi,rfl,hall,hnd,rfl,hbr⟩:=hrel;obtain⟨y1,y2,y3,y4,y5⟩:=HSY.out wr hbr;have HBR:=hidz hbr;have HBB:=hidz (HB.out.trans (hbr.mono HB.out.size));clear hbr;by_cases hlt:i<D.fails.length
    case neg=>
     have HE:Hid (∀x∈D.fails,FailP fs x):=by
      have:=hall.out;rwa [List.take_of_length_le (by omega)] at this
     have HND:Hid ((D.fails.map plF).Nodup):=by
      have:=hnd.out;rwa [List.take_of_length_le (by rw[List.length_map];omega)] at this
     rw[List.take_of_length_le (by omega)];by_cases hg:D.guards=sumC D.fails
     ·have HQ:Hid (r=true):=by show _=_;rw[HR.out];exact ay ⟨H1.out,H2.out,HCP.out,⟨H4.out,HND.out,HE.out,hg⟩,H5.out⟩
      have gg:(D.guards == sumC D.fails)=true:=by rw[hg];exact beq_self_eq_true _
      clear hg;go_wp2;go_ret
      exact⟨aj (by rw[HQ.out]),HBB.out⟩
     ·have HQ:Hid (r=false):=by show _=_;rw[HR.out];exact aw (fun h=>hg h.2.2.2.1.2.2.2)
      have gg:(D.guards == sumC D.fails)=false:=beq_eq_false_iff_ne.2 hg;clear hg;go_wp2;go_ret
      exact⟨aj (by rw[HQ.out]),HBB.out⟩
    obtain⟨b,off,rfl,-,h0,h1,h2,h3⟩:=(HFA.out.mono HBB.out) i hlt;have HIN:Hid (D.fails[i]∈D.fails):=n_l hlt;have HT:Hid (FailP fs D.fails[i]->∀x∈D.fails.take (i+1),FailP fs x):=fun h=>aP (p:=FailP fs) hlt hall.out h
    have HNS:Hid ((∀j (hj:j<i),plF (D.fails[j]'(by omega))≠plF D.fails[i])->((D.fails.map plF).take (i+1)).Nodup):=fun h=>nodup_step (by rw[List.length_map];exact hlt) hnd.out (fun j hj=>by rw[List.getElem_map,List.getElem_map];exact h j hj)
    have HNN:Hid (∀j (hj:j<i),plF (D.fails[j]'(by omega))=plF D.fails[i]->¬(D.fails.map plF).Nodup):=fun j hj h=>not_nodup (k:=i) (by rw[List.length_map];exact hlt) hj (by rw[List.getElem_map,List.getElem_map];exact h)
    have HCK:Hid (∀w',Below wr.heap.size wr w'->Calls Tryz.prog 47 #[.agg #[.slice a1 ts.length c1,.slice a2 fs.length c2],.agg #[.int .i64 D.fails[i].f,.int .i64 D.fails[i].pc,.int .i64 D.fails[i].seen,.int .i64 D.fails[i].target]] w' fun e w''=>e=.returned (.bool (pB (FailP fs D.fails[i])))/\Below w'.heap.size w' w''):=fun w' h=>HF.out D.fails[i] w' (HBB.out.trans (h.mono HBB.out.size))
    have HS:Hid (∀w',Below wr.heap.size wr w'->w'.cell? ⟨w.heap.size,0,none⟩=some (.slice a1 ts.length c1)/\w'.cell? ⟨w.heap.size,1,none⟩=some (.slice a2 fs.length c2)/\w'.cell? ⟨w.heap.size+1,12,none⟩=some (.slice (some ⟨b,off,none⟩) D.fails.length lc)/\w'.cell? ⟨b,off+i*4,none⟩=some (.int .i64 D.fails[i].f)/\w'.cell? ⟨b,off+i*4+1,none⟩=some (.int .i64 D.fails[i].pc)/\w'.cell? ⟨b,off+i*4+2,none⟩=some (.int .i64 D.fails[i].seen)/\w'.cell? ⟨b,off+i*4+3,none⟩=some (.int .i64 D.fails[i].target)):=fun w' h=>⟨cell_later h y1,cell_later h y2,cell_later h y4,cell_later h h0,cell_later h h1,cell_later h h2,cell_later h h3⟩
    have HSU:Hid (sumC (D.fails.take (i+1))=sumC (D.fails.take i)+D.fails[i].target):=sumC_succ _ _ hlt;have hsf:=eY fs (D.fails.take i) hall.out;rw[List.length_take] at hsf;obtain⟨S,hS⟩:∃S,S=sumC (D.fails.take i):=⟨_,rfl⟩;rw[<-hS] at HSU hsf ⊢;clear hS;have hiL:(i:Int)<(D.fails.length:Int):=by omega
    clear hall hnd;by_cases hp:FailP fs D.fails[i]
    case neg=>
     have HQ:Hid (r=false):=by show _=_;rw[HR.out];exact aw (fun h=>hp (h.2.2.2.1.2.2.1 _ HIN.out))
     rw[aw hp] at HCK;clear hp HT HNS HNN HIN HSU;go_upto_region 17 with fail
     clear y1 y2 y3 y4 y5 h0 h1 h2 h3;refine au (by kernel_rfl) (by kernel_rfl) ?_
     iterate 6
      refine ae (v:=?_) (by kernel_rfl) ?_ ?_;rotate_left
      ·intro w' hC;obtain⟨j0,j1,j2,j3,j4,j5,j6⟩:=HS.out w' hC;go_simp;try with_reducible rfl
      try simp only[Act.put,sAr,sZe,sSu]
     refine ae (v:=.bool false) (by kernel_rfl) ?_ ?_
     ·intro w' hC;go_simp;refine (HCK.out w' hC).mono ?_;rintro e w'' ⟨rfl,hb2⟩;exact⟨rfl,hC.trans (hb2.mono hC.size)⟩
     try simp only[Act.put,sAr,sZe,sSu]
     refine ae (v:=?_) (by kernel_rfl) ?_ ?_;rotate_left
     ·intro w' hC;obtain⟨j0,j1,j2,j3,j4,j5,j6⟩:=HS.out w' hC;go_simp;try with_reducible rfl
     try simp only[Act.put,sAr,sZe,sSu]
     refine wpQuiet_nil ?_;intro wq qq;have hBe:=HBB.out.trans (qq.mono HBB.out.size);clear qq HS HCK;go_wp2;go_ret
     exact⟨aj (by rw[HQ.out]),hBe⟩
    rw[ay hp] at HCK;have HOK:=hidz (HT.out hp);have HTG:=hidz hp.2;clear hp HT;go_upto_region 17 with fail
    clear y1 y2 y3 y4 y5 h0 h1 h2 h3;refine au (by kernel_rfl) (by kernel_rfl) ?_
    iterate 6
     refine ae (v:=?_) (by kernel_rfl) ?_ ?_;rotate_left
     ·intro w' hC;obtain⟨j0,j1,j2,j3,j4,j5,j6⟩:=HS.out w' hC;go_simp;try with_reducible rfl
     try simp only[Act.put,sAr,sZe,sSu]
    refine ae (v:=.bool true) (by kernel_rfl) ?_ ?_
    ·intro w' hC;go_simp;refine (HCK.out w' hC).mono ?_;rintro e w'' ⟨rfl,hb2⟩;exact⟨rfl,hC.trans (hb2.mono hC.size)⟩
    try simp only[Act.put,sAr,sZe,sSu]
    refine ae (v:=?_) (by kernel_rfl) ?_ ?_;rotate_left
    ·intro w' hC;obtain⟨j0,j1,j2,j3,j4,j5,j6⟩:=HS.out w' hC;go_simp;try with_reducible rfl
    try simp only[Act.put,sAr,sZe,sSu]
    refine wpQuiet_nil ?_;intro wq qq;have HQQ:=hidz qq;obtain⟨j0,j1,j2,j3,j4,j5,j6⟩:=HS.out wq qq;clear qq HCK;have htg:=HTG.out;go_wp2_with fail
    clear j0 j1 j2 j3 j4 j5 j6 htg;go_loopw [9] (fun kv wz=>∃(k:Nat),k<=i/\kv=.int .i64 k/\Hid (∀j (hj:j<i),j<k->plF (D.fails[j]'(by omega))≠plF D.fails[i])/\Below wr.heap.size wr wz) (fun kv _=>i-(intOf kv).toNat)
    case atStart=>exact⟨0,by omega,rfl,(fun j _ h=>absurd h (Nat.not_lt_zero _)),HQQ.out⟩
    case round=>
     obtain⟨k,hk,rfl,hne,hbz⟩:=hrel;have HBZ:=hidz hbz;clear hbz;by_cases hki:k<i
     case neg=>
      have HNX:=hidz (HNS.out (fun j hj=>hne.out j hj (by omega)));have HBF:=hidz (HBR.out.trans (HBZ.out.mono HBR.out.size));clear HNS HNN hne HS;go_wp2;go_roundw
      case rel=>exact⟨i+1,by omega,by go_num,HOK.out,HNX.out,by rw[HSU.out],HBF.out⟩
      case measure=>simp[intOf];omega
     have hkl:k<D.fails.length:=by omega
     have hkL:(k:Int)<(D.fails.length:Int):=by omega
     obtain⟨b',off',hE,-,k0,k1,-,-⟩:=(HFA.out.mono (HBB.out.trans (HBZ.out.mono HBB.out.size))) k hkl;obtain⟨rfl,rfl⟩:b'=b/\off'=off:=by simp at hE;exact⟨hE.1.symm,hE.2.symm⟩
     clear hE;have HS2:Hid (∀w',Below wr.heap.size wr w'->w'.cell? ⟨w.heap.size+1,12,none⟩=some (.slice (some ⟨b',off',none⟩) D.fails.length lc)/\w'.cell? ⟨b',off'+i*4,none⟩=some (.int .i64 D.fails[i].f)/\w'.cell? ⟨b',off'+i*4+1,none⟩=some (.int .i64 D.fails[i].pc)/\w'.cell? ⟨b',off'+k*4,none⟩=some (.int .i64 D.fails[k].f)/\w'.cell? ⟨b',off'+k*4+1,none⟩=some (.int .i64 D.fails[k].pc)):=fun w' h=>⟨(HS.out w' (HBZ.out.trans (h.mono HBZ.out.size))).2.2.1,(HS.out w' (HBZ.out.trans (h.mono HBZ.out.size))).2.2.2.1,(HS.out w' (HBZ.out.trans (h.mono HBZ.out.size))).2.2.2.2.1,cell_later h k0,cell_later h k1⟩
     clear k0 k1;by_cases q1:D.fails[k].f=D.fails[i].f
     case neg=>
      have g1:(D.fails[k].f == D.fails[i].f)=false:=beq_eq_false_iff_ne.2 q1;have HNW:Hid (∀j (hj:j<i),j<k+1->plF (D.fails[j]'(by omega))≠plF D.fails[i]):=fun j hj h=>by
       by_cases e:j=k
       ·subst e;intro q;exact q1 (congrArg Prod.fst q)
       ·exact hne.out j hj (by omega)
      clear q1;obtain⟨j0,j1,j2,j3,j4⟩:=HS2.out wr gM;go_upto_region 23 with fail
      clear j0 j1 j2 j3 j4;refine au (by kernel_rfl) (by kernel_rfl) ?_
      iterate 14
       refine ae (v:=?_) (by kernel_rfl) ?_ ?_;rotate_left
       ·intro w' hC;obtain⟨j0,j1,j2,j3,j4⟩:=HS2.out w' hC;go_simp;try with_reducible rfl
       try simp only[Act.put,sAr,sZe,sSu]
      iterate 13 go_big_quiet_skip
      refine ae (v:=?_) (by kernel_rfl) ?_ ?_;rotate_left
      ·intro w' hC;obtain⟨j0,j1,j2,j3,j4⟩:=HS2.out w' hC;go_simp;try with_reducible rfl
      try simp only[Act.put,sAr,sZe,sSu]
      refine wpQuiet_nil ?_;intro wq2 qq;have HBF:=hidz (HBZ.out.trans (qq.mono HBZ.out.size));clear qq HS2 hne;go_wp2;go_roundw
      case rel=>exact⟨k+1,by omega,by go_num,HNW.out,HBF.out⟩
      case measure=>simp[intOf];omega
     have g1:(D.fails[k].f == D.fails[i].f)=true:=by rw[q1];exact beq_self_eq_true _
     by_cases q2:D.fails[k].pc=D.fails[i].pc
     case neg=>
      have g2:(D.fails[k].pc == D.fails[i].pc)=false:=beq_eq_false_iff_ne.2 q2;have HNW:Hid (∀j (hj:j<i),j<k+1->plF (D.fails[j]'(by omega))≠plF D.fails[i]):=fun j hj h=>by
       by_cases e:j=k
       ·subst e;intro q;exact q2 (congrArg Prod.snd q)
       ·exact hne.out j hj (by omega)
      clear q1 q2;obtain⟨j0,j1,j2,j3,j4⟩:=HS2.out wr gM;go_upto_region 23 with fail
      clear j0 j1 j2 j3 j4;refine au (by kernel_rfl) (by kernel_rfl) ?_
      iterate 28
       refine ae (v:=?_) (by kernel_rfl) ?_ ?_;rotate_left
       ·intro w' hC;obtain⟨j0,j1,j2,j3,j4⟩:=HS2.out w' hC;go_simp;try with_reducible rfl
       try simp only[Act.put,sAr,sZe,sSu]
      refine wpQuiet_nil ?_;intro wq2 qq;have HBF:=hidz (HBZ.out.trans (qq.mono HBZ.out.size));clear qq HS2 hne;go_wp2;go_roundw
      case rel=>exact⟨k+1,by omega,by go_num,HNW.out,HBF.out⟩
      case measure=>simp[intOf];omega
     have g2:(D.fails[k].pc == D.fails[i].pc)=true:=by rw[q2];exact beq_self_eq_true _
     have HQ:Hid (r=false):=by show _=_;rw[HR.out];exact aw (fun h=>HNN.out k hki (Prod.ext q1 q2) h.2.2.2.1.2.1)
     clear q1 q2;obtain⟨j0,j1,j2,j3,j4⟩:=HS2.out wr gM;go_upto_region 23 with fail
     clear j0 j1 j2 j3 j4;refine au (by kernel_rfl) (by kernel_rfl) ?_
     iterate 28
      refine ae (v:=?_) (by kernel_rfl) ?_ ?_;rotate_left
      ·intro w' hC;obtain⟨j0,j1,j2,j3,j4⟩:=HS2.out w' hC;go_simp;try with_reducible rfl
      try simp only[Act.put,sAr,sZe,sSu]
     refine wpQuiet_nil ?_;intro wq2 qq;have hBe:=(HBB.out.trans (HBZ.out.mono HBB.out.size)).trans (qq.mono (HBB.out.trans (HBZ.out.mono HBB.out.size)).size);clear qq HS2 hne;go_wp2;go_ret
     exact⟨aj (by rw[HQ.out]),hBe⟩
  obtain⟨b,off,a0,c0,a3,c3,rfl,-,h0,h1,h2,h3,h4,h5,p0,p3⟩:=(HCA.out.mono HBB.out) i hlt;have HIN:Hid (D.codes[i]∈D.codes):=n_l hlt;have HT:Hid (FastP ts fs D.codes[i]->∀x∈D.codes.take (i+1),FastP ts fs x):=fun h=>aP (p:=FastP ts fs) hlt hall.out h
  have HNS:Hid ((∀j (hj:j<i),plC (D.codes[j]'(by omega))≠plC D.codes[i])->((D.codes.map plC).take (i+1)).Nodup):=fun h=>nodup_step (by rw[List.length_map];exact hlt) hnd.out (fun j hj=>by rw[List.getElem_map,List.getElem_map];exact h j hj)
  have HNN:Hid (∀j (hj:j<i),plC (D.codes[j]'(by omega))=plC D.codes[i]->¬(D.codes.map plC).Nodup):=fun j hj h=>not_nodup (k:=i) (by rw[List.length_map];exact hlt) hj (by rw[List.getElem_map,List.getElem_map];exact h)
  have HCK:Hid (∀w',Below wr.heap.size wr w'->Calls Tryz.prog 46 #[.agg #[.slice a1 ts.length c1,.slice a2 fs.length c2],.agg #[.int .i64 D.codes[i].fn,.int .i64 D.codes[i].entry,.int .i64 D.codes[i].vals,.int .i64 D.codes[i].nums,.slice a0 D.codes[i].ops.length c0,.slice a3 D.codes[i].exits.length c3]] w' fun e w''=>e=.returned (.bool (pB (FastP ts fs D.codes[i])))/\Below w'.heap.size w' w''):=fun w' h=>HC.out D.codes[i] a0 a3 c0 c3 w' (HSM.out.codes.2 _ HIN.out) (HBB.out.trans (h.mono HBB.out.size)) ⟨p0.mono h,p3.mono h⟩
  have HS:Hid (∀w',Below wr.heap.size wr w'->w'.cell? ⟨w.heap.size,0,none⟩=some (.slice a1 ts.length c1)/\w'.cell? ⟨w.heap.size,1,none⟩=some (.slice a2 fs.length c2)/\w'.cell? ⟨w.heap.size+1,11,none⟩=some (.slice (some ⟨b,off,none⟩) D.codes.length cc)/\w'.cell? ⟨b,off+i*6,none⟩=some (.int .i64 D.codes[i].fn)/\w'.cell? ⟨b,off+i*6+1,none⟩=some (.int .i64 D.codes[i].entry)/\w'.cell? ⟨b,off+i*6+2,none⟩=some (.int .i64 D.codes[i].vals)/\w'.cell? ⟨b,off+i*6+3,none⟩=some (.int .i64 D.codes[i].nums)/\w'.cell? ⟨b,off+i*6+4,none⟩=some (.slice a0 D.codes[i].ops.length c0)/\w'.cell? ⟨b,off+i*6+5,none⟩=some (.slice a3 D.codes[i].exits.length c3)):=fun w' h=>⟨cell_later h y1,cell_later h y2,cell_later h y3,cell_later h h0,cell_later h h1,cell_later h h2,cell_later h h3,cell_later h h4,cell_later h h5⟩
  have hiL:(i:Int)<(D.codes.length:Int):=by omega
  clear hall hnd p0 p3;by_cases hp:FastP ts fs D.codes[i]
  case neg=>
   have HQ:Hid (r=false):=by show _=_;rw[HR.out];exact aw (fun h=>hp (h.2.2.1.2.2 _ HIN.out))
   rw[aw hp] at HCK;clear hp HT HNS HNN HIN;go_upto_region 6 with fail
   clear y1 y2 y3 y4 y5 h0 h1 h2 h3 h4 h5;refine au (by kernel_rfl) (by kernel_rfl) ?_
   iterate 6
    refine ae (v:=?_) (by kernel_rfl) ?_ ?_;rotate_left
    ·intro w' hC;obtain⟨j0,j1,j2,j3,j4,j5,j6,j7,j8⟩:=HS.out w' hC;go_simp;try with_reducible rfl
    try simp only[Act.put,sAr,sZe,sSu]
   refine ae (v:=.bool false) (by kernel_rfl) ?_ ?_
   ·intro w' hC;go_simp;refine (HCK.out w' hC).mono ?_;rintro e w'' ⟨rfl,hb2⟩;exact⟨rfl,hC.trans (hb2.mono hC.size)⟩
   try simp only[Act.put,sAr,sZe,sSu]
   refine ae (v:=?_) (by kernel_rfl) ?_ ?_;rotate_left
   ·intro w' hC;obtain⟨j0,j1,j2,j3,j4,j5,j6,j7,j8⟩:=HS.out w' hC;go_simp;try with_reducible rfl
   try simp only[Act.put,sAr,sZe,sSu]
   refine wpQuiet_nil ?_;intro wq qq;have hBe:=HBB.out.trans (qq.mono HBB.out.size);clear qq HS HCK;go_wp2;go_ret
   exact⟨aj (by rw[HQ.out]),hBe⟩
  rw[ay hp] at HCK;have HOK:=hidz (HT.out hp);clear hp HT;go_upto_region 6 with fail
  clear y1 y2 y3 y4 y5 h0 h1 h2 h3 h4 h5;refine au (by kernel_rfl) (by kernel_rfl) ?_
  iterate 6
   refine ae (v:=?_) (by kernel_rfl) ?_ ?_;rotate_left
   ·intro w' hC;obtain⟨j0,j1,j2,j3,j4,j5,j6,j7,j8⟩:=HS.out w' hC;go_simp;try with_reducible rfl
   try simp only[Act.put,sAr,sZe,sSu]
  refine ae (v:=.bool true) (by kernel_rfl) ?_ ?_
  ·intro w' hC;go_simp;refine (HCK.out w' hC).mono ?_;rintro e w'' ⟨rfl,hb2⟩;exact⟨rfl,hC.trans (hb2.mono hC.size)⟩
  try simp only[Act.put,sAr,sZe,sSu]
  refine ae (v:=?_) (by kernel_rfl) ?_ ?_;rotate_left
  ·intro w' hC;obtain⟨j0,j1,j2,j3,j4,j5,j6,j7,j8⟩:=HS.out w' hC;go_simp;try with_reducible rfl
  try simp only[Act.put,sAr,sZe,sSu]
  refine wpQuiet_nil ?_;intro wq qq;have HQQ:=hidz qq;obtain⟨j0,j1,j2,j3,j4,j5,j6,j7,j8⟩:=HS.out wq qq;clear qq HCK;go_wp2_with fail
  clear j0 j1 j2 j3 j4 j5 j6 j7 j8;go_loopw [6] (fun kv wz=>∃(k:Nat),k<=i/\kv=.int .i64 k/\Hid (∀j (hj:j<i),j<k->plC (D.codes[j]'(by omega))≠plC D.codes[i])/\Below wr.heap.size wr wz) (fun kv _=>i-(intOf kv).toNat)
  case atStart=>exact⟨0,by omega,rfl,(fun j _ h=>absurd h (Nat.not_lt_zero _)),HQQ.out⟩
  case round=>
   obtain⟨k,hk,rfl,hne,hbz⟩:=hrel;have HBZ:=hidz hbz;clear hbz;by_cases hki:k<i
   case neg=>
    have HNX:=hidz (HNS.out (fun j hj=>hne.out j hj (by omega)));have HBF:=hidz (HBR.out.trans (HBZ.out.mono HBR.out.size));clear HNS HNN hne HS;go_wp2;go_roundw
    case rel=>exact⟨i+1,by omega,by go_num,HOK.out,HNX.out,HBF.out⟩
    case measure=>simp[intOf];omega
   have hkl:k<D.codes.length:=by omega
   have hkL:(k:Int)<(D.codes.length:Int):=by omega
   obtain⟨b',off',_,_,_,_,hE,-,k0,k1,-,-,-,-,-,-⟩:=(HCA.out.mono (HBB.out.trans (HBZ.out.mono HBB.out.size))) k hkl;obtain⟨rfl,rfl⟩:b'=b/\off'=off:=by simp at hE;exact⟨hE.1.symm,hE.2.symm⟩
   clear hE;have HS2:Hid (∀w',Below wr.heap.size wr w'->w'.cell? ⟨w.heap.size+1,11,none⟩=some (.slice (some ⟨b',off',none⟩) D.codes.length cc)/\w'.cell? ⟨b',off'+i*6,none⟩=some (.int .i64 D.codes[i].fn)/\w'.cell? ⟨b',off'+i*6+1,none⟩=some (.int .i64 D.codes[i].entry)/\w'.cell? ⟨b',off'+k*6,none⟩=some (.int .i64 D.codes[k].fn)/\w'.cell? ⟨b',off'+k*6+1,none⟩=some (.int .i64 D.codes[k].entry)):=fun w' h=>⟨(HS.out w' (HBZ.out.trans (h.mono HBZ.out.size))).2.2.1,(HS.out w' (HBZ.out.trans (h.mono HBZ.out.size))).2.2.2.1,(HS.out w' (HBZ.out.trans (h.mono HBZ.out.size))).2.2.2.2.1,cell_later h k0,cell_later h k1⟩
   clear k0 k1;by_cases q1:D.codes[k].fn=D.codes[i].fn
   case neg=>
    have g1:(D.codes[k].fn == D.codes[i].fn)=false:=beq_eq_false_iff_ne.2 q1;have HNW:Hid (∀j (hj:j<i),j<k+1->plC (D.codes[j]'(by omega))≠plC D.codes[i]):=fun j hj h=>by
     by_cases e:j=k
     ·subst e;intro q;exact q1 (congrArg Prod.fst q)
     ·exact hne.out j hj (by omega)
    clear q1;obtain⟨j0,j1,j2,j3,j4⟩:=HS2.out wr gM;go_upto_region 11 with fail
    clear j0 j1 j2 j3 j4;refine au (by kernel_rfl) (by kernel_rfl) ?_
    iterate 14
     refine ae (v:=?_) (by kernel_rfl) ?_ ?_;rotate_left
     ·intro w' hC;obtain⟨j0,j1,j2,j3,j4⟩:=HS2.out w' hC;go_simp;try with_reducible rfl
     try simp only[Act.put,sAr,sZe,sSu]
    iterate 13 go_big_quiet_skip
    refine ae (v:=?_) (by kernel_rfl) ?_ ?_;rotate_left
    ·intro w' hC;obtain⟨j0,j1,j2,j3,j4⟩:=HS2.out w' hC;go_simp;try with_reducible rfl
    try simp only[Act.put,sAr,sZe,sSu]
    refine wpQuiet_nil ?_;intro wq2 qq;have HBF:=hidz (HBZ.out.trans (qq.mono HBZ.out.size));clear qq HS2 hne;go_wp2;go_roundw
    case rel=>exact⟨k+1,by omega,by go_num,HNW.out,HBF.out⟩
    case measure=>simp[intOf];omega
   have g1:(D.codes[k].fn == D.codes[i].fn)=true:=by rw[q1];exact beq_self_eq_true _
   by_cases q2:D.codes[k].entry=D.codes[i].entry
   case neg=>
    have g2:(D.codes[k].entry == D.codes[i].entry)=false:=beq_eq_false_iff_ne.2 q2;have HNW:Hid (∀j (hj:j<i),j<k+1->plC (D.codes[j]'(by omega))≠plC D.codes[i]):=fun j hj h=>by
     by_cases e:j=k
     ·subst e;intro q;exact q2 (congrArg Prod.snd q)
     ·exact hne.out j hj (by omega)
    clear q1 q2;obtain⟨j0,j1,j2,j3,j4⟩:=HS2.out wr gM;go_upto_region 11 with fail
    clear j0 j1 j2 j3 j4;refine au (by kernel_rfl) (by kernel_rfl) ?_
    iterate 28
     refine ae (v:=?_) (by kernel_rfl) ?_ ?_;rotate_left
     ·intro w' hC;obtain⟨j0,j1,j2,j3,j4⟩:=HS2.out w' hC;go_simp;try with_reducible rfl
     try simp only[Act.put,sAr,sZe,sSu]
    refine wpQuiet_nil ?_;intro wq2 qq;have HBF:=hidz (HBZ.out.trans (qq.mono HBZ.out.size));clear qq HS2 hne;go_wp2;go_roundw
    case rel=>exact⟨k+1,by omega,by go_num,HNW.out,HBF.out⟩
    case measure=>simp[intOf];omega
   have g2:(D.codes[k].entry == D.codes[i].entry)=true:=by rw[q2];exact beq_self_eq_true _
   have HQ:Hid (r=false):=by show _=_;rw[HR.out];exact aw (fun h=>HNN.out k hki (Prod.ext q1 q2) h.2.2.1.2.1)
   clear q1 q2;obtain⟨j0,j1,j2,j3,j4⟩:=HS2.out wr gM;go_upto_region 11 with fail
   clear j0 j1 j2 j3 j4;refine au (by kernel_rfl) (by kernel_rfl) ?_
   iterate 28
    refine ae (v:=?_) (by kernel_rfl) ?_ ?_;rotate_left
    ·intro w' hC;obtain⟨j0,j1,j2,j3,j4⟩:=HS2.out w' hC;go_simp;try with_reducible rfl
    try simp only[Act.put,sAr,sZe,sSu]
   refine wpQuiet_nil ?_;intro wq2 qq;have hBe:=(HBB.out.trans (HBZ.out.mono HBB.out.size)).trans (qq.mono (HBB.out.trans (HBZ.out.mono HBB.out.size)).size);clear qq HS2 hne;go_wp2;go_ret
   exact⟨aj (by rw[HQ.out]),hBe⟩
end Go.Proofs.YtdlkbbgmjilccaaGreatDoor
