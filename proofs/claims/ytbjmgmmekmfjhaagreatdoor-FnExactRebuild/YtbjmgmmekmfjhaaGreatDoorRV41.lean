/- RV41 -/
import Derived.Test.YtbjmgmmekmfjhaaGreatDoorRV40
import Derived.Test.YtbjmgmmekmfjhaaGreatDoorRV31
set_option maxHeartbeats 32000000
set_option maxRecDepth 100000
namespace Go.Proofs.YtbjmgmmekmfjhaaGreatDoor
open Go.RowKit
def gR (ts:List ByteArray)(fs:List Fn)(D:aR)(x:Int)(vals:List Vl)(nums:List Int)(hs:List (List Vl))(w:World)(e:Ending)(w':World):Prop:=
 (∃(k:Nat) (h:k<D.exits.length),x=k/\cL ts fs D x vals nums hs/\gg vals nums D.exits[k] hs w e w')\/(¬cL ts fs D x vals nums hs/\∃q1 q2,e=.returned (.tuple #[q1,q2])/\w'.ownsRow w.heap.size 136 4 q1 0 []/\w'.ownsRow w.heap.size 125 1 q2 0 [])
theorem gg.low{vals:List Vl}{nums:List Int}{x:Ex}{hs:List (List Vl)}{w w1 w':World}{e:Ending}(h:gg vals nums x hs w1 e w')(hl:w.heap.size<=w1.heap.size):gg vals nums x hs w e w':=by
 obtain⟨J,q1,q2,xs,ys,e1,hJ,h | h⟩:=h
 ·obtain⟨h1,h2,h3,h4,h5⟩:=h;exact⟨J,q1,q2,xs,ys,e1,hJ,.inl ⟨h1,b9 h2 hl,h3.low hl,b9 h4 hl,h5.low hl⟩⟩
 ·obtain⟨h1,h2,h3⟩:=h;exact⟨J,q1,q2,xs,ys,e1,hJ,.inr ⟨h1,b9 h2 hl,b9 h3 hl⟩⟩
theorem fO{w w':World}(h:Below w.heap.size w w'):((w'.alloc (.cells #[] 136)).alloc (.cells #[] 125)).ownsRow w.heap.size 136 4 (.slice (some ⟨w'.heap.size,0,none⟩) 0 0) 0 []/\((w'.alloc (.cells #[] 136)).alloc (.cells #[] 125)).ownsRow w.heap.size 125 1 (.slice (some ⟨w'.heap.size+1,0,none⟩) 0 0) 0 []/\Below w.heap.size w ((w'.alloc (.cells #[] 136)).alloc (.cells #[] 125)):=by
 have hs7:w.heap.size<=w'.heap.size:=h.size;refine⟨World.ownsRow.alloc (World.ownsRow_made w' #[] 0 hs7 (by unfold maxLen;omega) rfl) _,?_,h.trans (((b_r.alloc n_l _).alloc (by simp) _:Below w'.heap.size w' _).mono hs7)⟩;have:=World.ownsRow_made (base:=w.heap.size) (e:=125) (size:=1) (w'.alloc (.cells #[] 136)) #[] 0 (by simp;omega) (by unfold maxLen;omega) rfl;simpa using this
theorem sNum11_any(n:Int)(w:World):Calls Tryz.prog 74 #[.int .i64 n] w fun e w'=>e=.returned (.bool (numB n))/\w'=w:=by
 go_enter Tryz.func74,Tryz.ntmps74
 go_wp2_with fail
 refine (bg n (-1000000000) 1000000000 _).mono ?_;rintro e w1 ⟨rfl,rfl⟩;go_wp2;go_ret
 exact⟨rfl,rfl⟩
theorem sRebuild_any(SF:SFast)(a1 a2 oa ea va na ha:Option Addr)(c1 c2 oc ec vc nc hcp:Nat)(ts:List ByteArray)(fs:List Fn)(D:aR)(x:Int)(vals:List Vl)(nums:List Int)(hs:List (List Vl))(w:World)(hsm:dm ts fs)(hd:a8 D)(hm:bc w 0 a1 ts)(hm2:FnsAt w 0 a2 fs)(hf:br w 0 oa ea D)
  (hva:aQ w 0 va vals)(hna:a9 w 0 na nums)(hH:RB w 0 ha hs)(hv:aE vals)(hnl:nums.length<=1048576)(hhl:hs.length<=1048576)(hhc:∀r∈hs,aE r) :
  Calls Tryz.prog 27 #[.agg #[.slice a1 ts.length c1,.slice a2 fs.length c2],.agg (aK oa ea oc ec D),.int .i64 x,.slice va vals.length vc,.slice na nums.length nc,.slice ha hs.length hcp] w fun e w'=>gR ts fs D x vals nums hs w e w'/\Below w.heap.size w w':=by
 have hsf:=fun (w:World) (k1:bc w 0 a1 ts) (k2:FnsAt w 0 a2 fs) (k3:br w 0 oa ea D)=>SF a1 a2 oa ea c1 c2 oc ec ts fs D w hsm hd k1 k2 k3
 unfold aK at hsf ⊢;have HSF:=hidE hsf;clear hsf;have hnv:=hv.1;have hnf:=hsm.funcs;have hne:D.exits.length<=1048576:=hd.2.1;obtain⟨wA,hwA⟩:∃wA,wA=(w.alloc (.cells #[.slice a1 ts.length c1,.slice a2 fs.length c2] 36)).alloc (.cells #[.int .i64 D.fn,.int .i64 D.entry,.int .i64 D.vals,.int .i64 D.nums,.slice oa D.ops.length oc,.slice ea D.exits.length ec] 41):=⟨_,rfl⟩;have hbA:Below w.heap.size w wA:=by rw[hwA];exact (b_r.alloc n_l _).alloc (by simp) _
 have hM0:wA.heap[w.heap.size]?=some (.cells #[.slice a1 ts.length c1,.slice a2 fs.length c2] 36 (0,0)):=by rw[hwA];exact au (al _ _ _) _
 have hF0:wA.heap[w.heap.size+1]?=some (.cells #[.int .i64 D.fn,.int .i64 D.entry,.int .i64 D.vals,.int .i64 D.nums,.slice oa D.ops.length oc,.slice ea D.exits.length ec] 41 (0,0)):=by rw[hwA];exact aA _ _ _ _ (by simp)
 have m0:=ae hM0;have f0:=ae hF0;go_enter Tryz.func27,Tryz.ntmps27
 go_upto_region 1 with fail
 rw[<-hwA];clear hwA;go_wp2_with fail
 refine (HSF.out wA (hm.mono hbA) (hm2.mono hbA) (hf.mono hbA)).mono ?_;rintro e w1 ⟨rfl,hb1⟩;clear HSF m0 f0;have hM1:=ah hM0 hb1;have hF1:=ah hF0 hb1;have hB1:=hbA.trans (hb1.mono hbA.size);have m1:=ae hM1;have f1:=ae hF1;have HQ1:=hidE (fO hB1);by_cases hFP:eP ts fs D
 case neg=>
  have HN:Hid (¬cL ts fs D x vals nums hs):=fun q=>hFP q.1
  rw[aJ hFP];clear hFP;go_wp2;go_ret2
  exact⟨.inr ⟨HN.out,_,_,rfl,HQ1.out.1,HQ1.out.2.1⟩,HQ1.out.2.2⟩
 rw[aL hFP];have HFP:=hidE hFP;clear hFP;have hwr:IntKind.i64.wrap ((D.exits.length:Int)-1)=(D.exits.length:Int)-1:=by rw[IntKind.wrap_i64];omega
 go_wp2_with fail
 refine (bg x 0 ((D.exits.length:Int)-1) _).mono ?_;rintro e w1' ⟨rfl,rfl⟩;by_cases hX:Btw x 0 ((D.exits.length:Int)-1)
 case neg=>
  have HN:Hid (¬cL ts fs D x vals nums hs):=fun q=>hX ⟨q.2.1.1,by have:=q.2.1.2;omega⟩
  rw[aJ hX];clear hX;go_wp2;go_ret2
  exact⟨.inr ⟨HN.out,_,_,rfl,HQ1.out.1,HQ1.out.2.1⟩,HQ1.out.2.2⟩
 rw[aL hX];obtain⟨k,rfl⟩:∃k:Nat,x=k:=⟨x.toNat,by have:=hX.1;omega⟩;have hk:k<D.exits.length:=by have:=hX.2;omega
 clear hX;by_cases h1:(vals.length:Int)=D.vals
 case neg=>
  have HN:Hid (¬cL ts fs D k vals nums hs):=fun q=>h1 q.2.2.1.1
  go_wp2;go_ret2
  exact⟨.inr ⟨HN.out,_,_,rfl,HQ1.out.1,HQ1.out.2.1⟩,HQ1.out.2.2⟩
 by_cases h2:(nums.length:Int)=D.nums
 case neg=>
  have HN:Hid (¬cL ts fs D k vals nums hs):=fun q=>h2 q.2.2.1.2.1
  go_wp2;go_ret2
  exact⟨.inr ⟨HN.out,_,_,rfl,HQ1.out.1,HQ1.out.2.1⟩,HQ1.out.2.2⟩
 by_cases h3:hs.length<=120
 case neg=>
  have HN:Hid (¬cL ts fs D k vals nums hs):=fun q=>h3 q.2.2.2.1
  have h3':(120:Int)<(hs.length:Int):=by omega
  go_wp2;go_ret2
  exact⟨.inr ⟨HN.out,_,_,rfl,HQ1.out.1,HQ1.out.2.1⟩,HQ1.out.2.2⟩
 have h3':¬((120:Int)<(hs.length:Int)):=by omega
 go_wp2_with fail
 refine (cJ va vals vc hs.length a1 a2 ts.length c1 fs.length c2 _ hnf hv (hva.mono hB1)).mono ?_;rintro e w2 ⟨rfl,hb2⟩;have hB2:=hB1.trans (hb2.mono hB1.size);have HQ2:=hidE (fO hB2);have hM2:=ah hM1 hb2;have hF2:=ah hF1 hb2;have H12:=hidE (And.intro h1 h2);clear m1 f1 HQ1 h3';by_cases h4:bY vals fs.length hs.length=true
 case neg=>
  have HN:Hid (¬cL ts fs D k vals nums hs):=fun q=>h4 q.2.2.1.2.2.1
  have h4':bY vals fs.length hs.length=false:=by simpa using h4
  clear h4;go_wp2;go_ret2
  exact⟨.inr ⟨HN.out,_,_,rfl,HQ2.out.1,HQ2.out.2.1⟩,HQ2.out.2.2⟩
 have H4:=hidE h4;rw[h4];clear h4 h1 h2;obtain⟨R,curR,rfl,-,hR,hRz,hRe⟩:=hH;go_wp2_with fail
 go_loopw [14] (fun i wr=>∃(k:Nat),k<=nums.length/\i=.int .i64 k/\Hid ((nums.take k).all numB=true)/\wr.heap[w.heap.size]?=some (.cells #[.slice a1 ts.length c1,.slice a2 fs.length c2] 36 (0,0))/\wr.heap[w.heap.size+1]?=some (.cells #[.int .i64 D.fn,.int .i64 D.entry,.int .i64 D.vals,.int .i64 D.nums,.slice oa D.ops.length oc,.slice ea D.exits.length ec] 41 (0,0))/\Below w.heap.size w wr) (fun i _=>nums.length-(intOf i).toNat)
 case atStart=>exact⟨0,by omega,rfl,rfl,hM2,hF2,hB2⟩
 case round=>
  obtain⟨k1,hk1,rfl,hal,hM,hF,hb⟩:=hrel;clear hM2 hF2 hB2 HQ2;have HQ3:=hidE (fO hb);by_cases hlt:k1<nums.length
  ·obtain⟨b,off,rfl,-,d1⟩:=hna k1 hlt;have d1':=cell_later hb d1;clear d1;go_wp2_with fail
   refine (sNum11_any nums[k1] _).mono ?_;rintro e w3 ⟨rfl,rfl⟩;clear d1';by_cases ho:numB nums[k1]=true
   ·have HO:Hid (numB nums[k1]=true):=ho;go_wp2;go_roundw
    case rel=>exact⟨k1+1,by omega,by go_num,b8 hlt hal.out HO.out,hM,hF,hb⟩
    case measure=>simp[intOf];omega
   ·have ho':numB nums[k1]=false:=by simpa using ho
    have HN:Hid (¬cL ts fs D k vals nums hs):=fun q=>by
     have h9:=q.2.2.1.2.2.2;rw[cT hlt ho'] at h9
     cases h9
    clear ho;go_wp2;go_ret2
    exact⟨.inr ⟨HN.out,_,_,rfl,HQ3.out.1,HQ3.out.2.1⟩,HQ3.out.2.2⟩
  ·have HNU:Hid (nums.all numB=true):=cD (by omega) hal.out;clear hal;obtain⟨wq,hwq⟩:∃wq,wq=wr:=⟨_,rfl⟩;rw[<-hwq] at hM hF hb HQ3 ⊢;clear hwq;go_wp2_with fail
   go_loopw [15] (fun i wr=>∃(k2:Nat),k2<=hs.length/\i=.int .i64 k2/\Hid ((hs.take k2).all (recB fs.length hs.length)=true)/\wr.heap[w.heap.size]?=some (.cells #[.slice a1 ts.length c1,.slice a2 fs.length c2] 36 (0,0))/\wr.heap[w.heap.size+1]?=some (.cells #[.int .i64 D.fn,.int .i64 D.entry,.int .i64 D.vals,.int .i64 D.nums,.slice oa D.ops.length oc,.slice ea D.exits.length ec] 41 (0,0))/\Below w.heap.size w wr) (fun i _=>hs.length-(intOf i).toNat)
   case atStart=>exact⟨0,by omega,rfl,rfl,hM,hF,hb⟩
   case round=>
    obtain⟨k2,hk2,rfl,hal,hMr,hFr,hbr⟩:=hrel;clear hM hF hb HQ3;have HQ4:=hidE (fun (w':World) (q:Below wr.heap.size wr w')=>fO (hbr.trans (q.mono hbr.size)));by_cases hlt2:k2<hs.length
    ·obtain⟨g,hg1,hVB⟩:=hRe k2 hlt2;have e1':wr.cell? ⟨R,k2,none⟩=some (.slice (some ⟨g,0,none⟩) hs[k2].length hs[k2].length):=cell_later hbr (by rw[ae hR];exact hg1);have e2:=hVB.1;have hsf:=hhc hs[k2] (g_m hlt2);have hkl:=hsf.1;by_cases ho:6<hs[k2].length
     ·have HN:Hid (¬cL ts fs D k vals nums hs):=fun q=>by
       have h9:=q.2.2.2.2;rw[cT hlt2 (show recB fs.length hs.length hs[k2]=false by unfold recB;simp;intro h;omega)] at h9
       cases h9
      have hoI:6<(hs[k2].length:Int):=by omega
      have hoB:decide (6<(hs[k2].length:Int))=true:=by simpa using hoI
      have m1:=ae hMr;go_wp2;go_quiet (fail)
      go_wp2;go_ret2
      exact⟨.inr ⟨HN.out,_,_,rfl,(HQ4.out _ (aF (Below.refl _ wr) _)).1,(HQ4.out _ (aF (Below.refl _ wr) _)).2.1⟩,(HQ4.out _ (aF (Below.refl _ wr) _)).2.2⟩
     have hoI:¬6<(hs[k2].length:Int):=by omega
     have hoB:decide (6<(hs[k2].length:Int))=false:=by simpa using hoI
     have hS:∀w',Below wr.heap.size wr w'->w'.cell? ⟨w.heap.size,0,none⟩=some (.slice a1 ts.length c1)/\w'.cell? ⟨w.heap.size,1,none⟩=some (.slice a2 fs.length c2)/\w'.cell? ⟨R,k2,none⟩=some (.slice (some ⟨g,0,none⟩) hs[k2].length hs[k2].length):=fun w' hb=>⟨ckb hMr hb rfl,ckb hMr hb rfl,cell_later hb e1'⟩
     have HS:=hidE hS;obtain⟨j0,j1,j2⟩:=hS wr b_r;have q:Below wr.heap.size wr wr.drew:=b_r.drew;have HB:=hidE hbr;have HM:=hidE hMr;have HF:=hidE hFr;clear hS hbr hMr hFr e1' ho;by_cases hv9:bY hs[k2] fs.length hs.length=true
     ·have HO:Hid (recB fs.length hs.length hs[k2]=true):=by
       show recB fs.length hs.length hs[k2]=true
       unfold recB;rw[hv9];simp
       omega
      have hvn:(!bY hs[k2] fs.length hs.length)=false:=by rw[hv9];rfl
      go_wp2
      go_region_held3 (fun w'=>w'.cell? ⟨w.heap.size,0,none⟩=some (.slice a1 ts.length c1)/\w'.cell? ⟨w.heap.size,1,none⟩=some (.slice a2 fs.length c2)/\w'.cell? ⟨R,k2,none⟩=some (.slice (some ⟨g,0,none⟩) hs[k2].length hs[k2].length))
       (first | exact⟨j0,j1,j2⟩ | exact HS.out _ q)
       (first
        | (go_at_call 73;refine (cJ _ _ _ _ _ _ _ _ _ _ _ hnf hsf (by exact e2.mono (HB.out.trans (q.mono HB.out.size)))).mono ?_;rintro e w5 ⟨rfl,kd⟩;have q:=q.trans (kd.mono q.size)))
      have hM5:=ah HM.out q;have hF5:=ah HF.out q;have hB5:=HB.out.trans (q.mono HB.out.size);clear HM HF HB HS j0 j1 j2 q kd HQ4;go_wp2;go_roundw
      case rel=>exact⟨k2+1,by omega,by go_num,b8 hlt2 hal.out HO.out,hM5,hF5,hB5⟩
      case measure=>simp[intOf];omega
     ·have hv':bY hs[k2] fs.length hs.length=false:=by simpa using hv9
      have HN:Hid (¬cL ts fs D k vals nums hs):=fun q=>by
       have h9:=q.2.2.2.2;rw[cT hlt2 (show recB fs.length hs.length hs[k2]=false by unfold recB;rw[hv'];simp)] at h9
       cases h9
      have hvn:(!bY hs[k2] fs.length hs.length)=true:=by rw[hv'];rfl
      clear hv9;go_wp2
      go_region_held3 (fun w'=>w'.cell? ⟨w.heap.size,0,none⟩=some (.slice a1 ts.length c1)/\w'.cell? ⟨w.heap.size,1,none⟩=some (.slice a2 fs.length c2)/\w'.cell? ⟨R,k2,none⟩=some (.slice (some ⟨g,0,none⟩) hs[k2].length hs[k2].length))
       (first | exact⟨j0,j1,j2⟩ | exact HS.out _ q)
       (first
        | (go_at_call 73;refine (cJ _ _ _ _ _ _ _ _ _ _ _ hnf hsf (by exact e2.mono (HB.out.trans (q.mono HB.out.size)))).mono ?_;rintro e w5 ⟨rfl,kd⟩;have q:=q.trans (kd.mono q.size)))
      have Q9:=hidE (HQ4.out _ q);clear HM HF HB HS j0 j1 j2 q kd HQ4;go_wp2;go_ret2
      exact⟨.inr ⟨HN.out,_,_,rfl,Q9.out.1,Q9.out.2.1⟩,Q9.out.2.2⟩
    ·have HHP:Hid (ic fs.length hs):=⟨by omega,cD (by omega) hal.out⟩;have hok:cL ts fs D k vals nums hs:=⟨HFP.out,⟨by omega,by omega⟩,⟨H12.out.1,H12.out.2,H4.out,HNU.out⟩,HHP.out⟩;have hfit:=hok.fits hd hk;have hre:=sL11_any oa ea va na (some ⟨R,0,none⟩) oc ec vc nc hcp D k vals nums hs wr hk hd (hf.mono hbr) hfit (hva.mono hbr) (hna.mono hbr) (RB.mono ⟨R,curR,rfl,Nat.zero_le _,hR,hRz,hRe⟩ hbr) hv hnl hhl hhc;unfold aK at hre;have HOK:=hidE hok;have f3:=ae hFr;clear hok hal;go_wp2_with fail
     refine hre.mono ?_;rintro e w5 ⟨hP5,hb5⟩;have hB5:=hbr.trans (hb5.mono hbr.size);have HP:=hidE (hP5.low hbr.size);clear f3;obtain⟨J,q1,q2,xs,ys,rfl,-⟩:=hP5;go_wp2;go_ret2
     exact⟨.inl ⟨k,hk,rfl,HOK.out,HP.out⟩,hB5⟩
end Go.Proofs.YtbjmgmmekmfjhaaGreatDoor
