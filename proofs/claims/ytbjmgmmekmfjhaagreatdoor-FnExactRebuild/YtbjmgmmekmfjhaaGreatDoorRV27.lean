/- RV27 -/
import Derived.Test.YtbjmgmmekmfjhaaGreatDoorRV22
import Derived.Test.YtbjmgmmekmfjhaaGreatDoorRV26
set_option maxHeartbeats 32000000
set_option maxRecDepth 100000
namespace Go.Proofs.YtbjmgmmekmfjhaaGreatDoor
open Go.RowKit
noncomputable def numB (n:Int):Bool:=pB (Btw n (-1000000000) 1000000000)
def gH (nf:Nat)(D:aR)(vals:List Vl)(nums:List Int)(recs:Int):Prop:=
 (vals.length:Int)=D.vals/\(nums.length:Int)=D.nums/\bY vals nf recs=true/\nums.all numB=true
theorem litN_any(n:Int)(w:World) :
  Calls Tryz.prog 126 #[.int .i64 n] w fun e w'=>e=.returned (.bool (!numB n))/\w'=w:=by
 go_enter Tryz.func126,Tryz.ntmps126
 go_wp2_with fail
 refine (bm n (-1000000000) 1000000000 _).mono ?_;rintro e w1 ⟨rfl,rfl⟩;go_wp2;go_ret
 exact⟨rfl,rfl⟩
theorem firstBadN_any(a:Option Addr)(xs:List Int)(cap:Nat)(w:World)(hn:xs.length<=1048576)(hm:a9 w 0 a xs) :
  Calls Tryz.prog 181 #[.slice a xs.length cap,.func (.func 126) #[] #[]] w fun e w'=>ia (xs.all numB) e/\Below w.heap.size w w':=by
 go_enter Tryz.func181,Tryz.ntmps181
 go_wp2;go_loopw [8] (fun i wr=>∃(k:Nat),k<=xs.length/\i=.int .i64 k/\Hid ((xs.take k).all numB=true)/\Below w.heap.size w wr) (fun i _=>xs.length-(intOf i).toNat)
 case atStart=>exact⟨0,by omega,rfl,rfl,Below.refl _ _⟩
 case round=>
  obtain⟨k,hk,rfl,hall,hb⟩:=hrel;by_cases hlt:k<xs.length
  ·obtain⟨b,off,rfl,-,d1⟩:=hm k hlt;have d1':=cell_later hb d1;clear d1;go_wp2_with fail
   refine (litN_any xs[k] _).mono ?_;rintro e w1 ⟨rfl,rfl⟩;clear d1';by_cases ho:numB xs[k]=true
   ·have HO:Hid (numB xs[k]=true):=ho;go_wp2;go_roundw
    case rel=>exact⟨k+1,by omega,by go_num,b8 hlt hall.out HO.out,hb⟩
    case measure=>simp[intOf];omega
   ·have ho':numB xs[k]=false:=by simpa using ho
    have HO:Hid (numB xs[k]=false):=ho';clear ho;go_wp2;go_ret
    exact⟨⟨(k:Int),rfl,by rw[show xs.all numB=false from cT hlt HO.out];simp⟩,hb⟩
  ·go_wp2;go_ret
   exact⟨⟨-1,rfl,by rw[show xs.all numB=true from cD (by omega) hall.out];simp⟩,hb⟩
theorem hasBadN_any(a:Option Addr)(xs:List Int)(cap:Nat)(w:World)(hn:xs.length<=1048576)(hm:a9 w 0 a xs) :
  Calls Tryz.prog 125 #[.slice a xs.length cap,.func (.func 126) #[] #[]] w fun e w'=>e=.returned (.bool (!xs.all numB))/\Below w.heap.size w w':=by
 go_enter Tryz.func125,Tryz.ntmps125
 go_wp2_with fail
 refine (firstBadN_any a xs cap _ hn hm).mono ?_;rintro e w1 ⟨⟨i,rfl,hi⟩,hb⟩;have HI:Hid (0<=i↔xs.all numB=false):=hi;clear hi;go_wp2;go_ret
 exact⟨ax (by rw[Bool.eq_iff_iff];simpa using HI.out),hb⟩
theorem regsFit_any(a1 a2 oa ea va na:Option Addr)(nt c1 nf c2 oc ec vc nc:Nat)(D:aR)(vals:List Vl)(nums:List Int)(recs:Int)(w:World)(hv:aE vals)(hn:nums.length<=1048576)(hm:aQ w 0 va vals)(hm2:a9 w 0 na nums) :
  Calls Tryz.prog 79 #[.agg #[.slice a1 nt c1,.slice a2 nf c2],.agg (aK oa ea oc ec D),.slice va vals.length vc,.slice na nums.length nc,.int .i64 recs] w fun e w'=>e=.returned (.bool (pB (gH nf D vals nums recs)))/\Below w.heap.size w w':=by
 have hmf:∀(fn:Go.Fn) (first cap:Array Value) (w:World),(Instr.makeFunc fn first cap).run Tryz.prog w=.ok (.func fn first cap) w:=fun _ _ _ _=>rfl
 unfold aK;have hvl:=hv.1;obtain⟨wA,hwA⟩:∃wA,wA=((w.alloc (.cells #[.slice a1 nt c1,.slice a2 nf c2] 36)).alloc (.cells #[.int .i64 D.fn,.int .i64 D.entry,.int .i64 D.vals,.int .i64 D.nums,.slice oa D.ops.length oc,.slice ea D.exits.length ec] 41)):=⟨_,rfl⟩;have hbA:Below w.heap.size w wA:=by rw[hwA];exact (b_r.alloc n_l _).alloc (by simp) _
 have hM0:wA.heap[w.heap.size]?=some (.cells #[.slice a1 nt c1,.slice a2 nf c2] 36 (0,0)):=by rw[hwA];exact au (al _ _ _) _
 have hF0:wA.heap[w.heap.size+1]?=some (.cells #[.int .i64 D.fn,.int .i64 D.entry,.int .i64 D.vals,.int .i64 D.nums,.slice oa D.ops.length oc,.slice ea D.exits.length ec] 41 (0,0)):=by rw[hwA];exact aA _ _ _ _ (by simp)
 have m0:=ae hM0;have f0:=ae hF0;by_cases h1:(vals.length:Int)=D.vals
 case neg=>
  have HN:Hid (¬gH nf D vals nums recs):=fun q=>h1 q.1
  go_enter Tryz.func79,Tryz.ntmps79
  go_upto_region 1 with fail
  rw[<-hwA];clear hwA;go_wp2;go_ret
  exact⟨ax (aJ HN.out).symm,hbA⟩
 by_cases h2:(nums.length:Int)=D.nums
 case neg=>
  have HN:Hid (¬gH nf D vals nums recs):=fun q=>h2 q.2.1
  go_enter Tryz.func79,Tryz.ntmps79
  go_upto_region 1 with fail
  rw[<-hwA];clear hwA;go_wp2;go_ret
  exact⟨ax (aJ HN.out).symm,hbA⟩
 have H1:Hid ((vals.length:Int)=D.vals):=h1;have H2:Hid ((nums.length:Int)=D.nums):=h2;go_enter Tryz.func79,Tryz.ntmps79
 go_upto_region 1 with fail
 rw[<-hwA];clear hwA;go_wp2_with fail
 refine (allIn_any _ _ _ _ _ _ _ _ _ _ _ hv (hm.mono hbA)).mono ?_;rintro e w1 ⟨rfl,hb⟩;have hB:=hbA.trans (hb.mono hbA.size);clear m0 f0;by_cases h3:bY vals nf recs=true
 case neg=>
  have HN:Hid (¬gH nf D vals nums recs):=fun q=>h3 q.2.2.1
  have h3':bY vals nf recs=false:=by simpa using h3
  clear h3;go_wp2;go_ret
  exact⟨ax (aJ HN.out).symm,hB⟩
 have H3:Hid (bY vals nf recs=true):=h3;go_wp2_with fail
 refine (hasBadN_any _ _ _ _ hn (hm2.mono hB)).mono ?_;rintro e w2 ⟨rfl,hb2⟩;go_wp2;go_ret
 exact⟨bP (by exact⟨fun q=>⟨H1.out,H2.out,H3.out,q⟩,fun q=>q.2.2.2⟩),hB.trans (hb2.mono hB.size)⟩
def et (nv nn:Nat)(s:Sr):Prop:=(s.k=2->0<=s.n/\s.n<(nv:Int))/\(s.k=3->0<=s.n/\s.n<(nn:Int))/\s.v.s.size<=1048576
def cG (v:Vl):Value:=.agg #[.int .i64 v.k,.int .i64 v.n,.string v.s]
def srAgg (s:Sr):Value:=.agg #[.int .i64 s.k,.int .i64 s.n,.int .i64 s.v.k,.int .i64 s.v.n,.string s.v.s]
theorem Km.setNew{lo g i:Nat}{a w:World}(h:Km lo a w)(hg:a.heap.size<=g)(v:Value):Km lo a (w.setCell ⟨g,i,none⟩ v):=
 ⟨h.os,h.tape,h.output,by have:=h.size;simpa using this,fun k o hk ho=>by
  have:k<a.heap.size:=(Array.getElem?_eq_some_iff.1 hk).1;rw[Below.heap_setCell _ _ _ _ (by show k≠g;omega)]
  exact h.block k o hk ho⟩
theorem MetAt.set{w:World}{lo nb mb g i t:Nat}{mv:Value}{ms:List Int}{c:Array Value}(h:MetAt w lo nb mb mv ms)(hg:w.heap[g]?=some (.cells c t (0,0)))(ht:eO (.cells c t (0,0)))(v:Value):MetAt (w.setCell ⟨g,i,none⟩ v) lo nb mb mv ms:=by
 have n1:nb≠g:=fun e=>by
  have:=h.num;rw[e,hg] at this;cases this;exact ht.1 rfl
 have n2:mb≠g:=fun e=>by
  have:=h.map;rw[e,hg] at this;cases this
 refine⟨by rw[Below.heap_setCell _ _ _ _ n1];exact h.num,by rw[Below.heap_setCell _ _ _ _ n2];exact h.map,⟨h.met.1,?_⟩,h.lom,h.mbn⟩;rcases h.met.2 with ⟨e,hn⟩ | ⟨b,cap,cur,e,hb,hh,r⟩
 ·exact .inl ⟨e,hn⟩
 ·refine .inr ⟨b,cap,cur,e,hb,?_,r⟩;have n3:b≠g:=fun e=>by
   rw[e,hg] at hh;cases hh;exact ht.2 rfl
  rw[Below.heap_setCell _ _ _ _ n3];exact hh
theorem worth_any{w0 w:World}{lo Vb Nb Pb Hb Ub nb mb:Nat}{va na ha:Option Addr}{vc nc hl hc:Nat}(vals:List Vl)(nums:List Int)(s:Sr)(mv:Value)(ms:List Int)(q:WIn w0 w lo Vb Nb Pb Hb Ub nb va na ha vals.length vc nums.length nc hl hc)(hN:MetAt w lo nb mb mv ms)(hms:ms.length<=1048576)(hhl:hl<=1048576)(hv:aE vals)(_:nums.length<=1048576)(hva:aQ w0 0 va vals)(hna:a9 w0 0 na nums)(hs:et vals.length nums.length s) :
  Calls Tryz.prog 183 #[srAgg s,.pointer (some ⟨Vb,0,none⟩),.pointer (some ⟨Nb,0,none⟩),.pointer (some ⟨Pb,0,none⟩)] w fun e w'=>e=.returned (cG (bJ vals nums hl ms s))/\Km lo w w'/\∃mv',MetAt w' lo nb mb mv' (metS ms s):=by
 unfold srAgg cG;obtain⟨wA,hwA⟩:∃wA,wA=(w.alloc (.cells #[.int .i64 s.k,.int .i64 s.n,.int .i64 s.v.k,.int .i64 s.v.n,.string s.v.s] 212)).alloc (.cells #[.int .i64 0,.int .i64 0,.string ⟨#[]⟩] 80):=⟨_,rfl⟩;have hbA:Below w.heap.size w wA:=by rw[hwA];exact (b_r.alloc n_l _).alloc (by simp) _
 have hS0:wA.heap[w.heap.size]?=some (.cells #[.int .i64 s.k,.int .i64 s.n,.int .i64 s.v.k,.int .i64 s.v.n,.string s.v.s] 212 (0,0)):=by rw[hwA];exact au (al _ _ _) _
 have hR0:wA.heap[w.heap.size+1]?=some (.cells #[.int .i64 0,.int .i64 0,.string ⟨#[]⟩] 80 (0,0)):=by rw[hwA];exact aA _ _ _ _ (by simp)
 have qA:=q.km (Km.of hbA);have s0:=ae hS0;by_cases h2:s.k=2
 ·obtain⟨j,hj,hjl⟩:∃j:Nat,s.n=(j:Int)/\j<vals.length:=⟨s.n.toNat,by have:=hs.1 h2;omega,by have:=hs.1 h2;omega⟩;have eW:Hid (bJ vals nums hl ms s=vals[j]/\metS ms s=ms):=by
   refine⟨?_,?_⟩
   ·unfold bJ;rw[if_pos h2,hj,Int.toNat_natCast,List.getD_eq_getElem?_getD,List.getElem?_eq_getElem hjl];rfl
   ·unfold metS;rw[if_neg (by omega)]
  obtain⟨b,off,rfl,-,c1,c2,c3⟩:=(hva.mono qA.b0) j hjl;have v0:=ae qA.v;have hsz:=hv.2 _ (g_m hjl);rw[h2,hj] at s0 hS0 hwA;rw[h2,hj];have HN:Hid (MetAt w lo nb mb mv ms):=hN;clear hva hna hs h2 hj hv hN;go_enter Tryz.func183,Tryz.ntmps183
  go_upto_region 1 with fail
  rw[<-hwA];clear hwA;go_wp2_with fail
  refine (dy _ _ _ _ hsz).mono ?_;rintro e w1 ⟨rfl,hb⟩;have hR1:=ah hR0 hb;have r1:=ae hR1;have r2:=aq hR1;have k1:Below w.heap.size w w1:=hbA.trans (hb.mono hbA.size);clear s0 v0 c1 c2 c3 hb qA q hS0;go_wp2;refine bodyPost_ret (v:=cG vals[j]) (by simp[results,Tryz.results183,go_sem,r1,cG]) rfl ?_;obtain⟨e1,e2⟩:=eW.out;rw[e1,e2];have kF:=((k1.setCell (p:=⟨w.heap.size+1,0,none⟩) (by simp) (.int .i64 vals[j].k)).setCell (p:=⟨w.heap.size+1,1,none⟩) (by simp) (.int .i64 vals[j].n)).setCell (p:=⟨w.heap.size+1,2,none⟩) (by simp) (.string vals[j].s);exact⟨rfl,Km.of kF,mv,HN.out.mono kF⟩
 by_cases h3:s.k=3
 ·obtain⟨j,hj,hjl⟩:∃j:Nat,s.n=(j:Int)/\j<nums.length:=⟨s.n.toNat,by have:=hs.2.1 h3;omega,by have:=hs.2.1 h3;omega⟩;have eW:Hid (bJ vals nums hl ms s=⟨1,nums[j],⟨#[]⟩⟩/\metS ms s=ms):=by
   refine⟨?_,?_⟩
   ·unfold bJ;rw[if_neg h2,if_pos h3,hj,Int.toNat_natCast,List.getD_eq_getElem?_getD,List.getElem?_eq_getElem hjl];rfl
   ·unfold metS;rw[if_neg (by omega)]
  obtain⟨b,off,rfl,-,c1⟩:=(hna.mono qA.b0) j hjl;have v0:=ae qA.n;rw[h3,hj] at s0 hS0 hwA;rw[h3,hj];have HN:Hid (MetAt w lo nb mb mv ms):=hN;clear hva hna hs h2 h3 hj hv hN;go_enter Tryz.func183,Tryz.ntmps183
  go_upto_region 1 with fail
  rw[<-hwA];clear hwA;go_wp2_with fail
  refine (intVal_any _ _).mono ?_;rintro e w1 ⟨rfl,hb⟩;have hR1:=ah hR0 hb;have r1:=ae hR1;have r2:=aq hR1;have k1:Below w.heap.size w w1:=hbA.trans (hb.mono hbA.size);clear s0 v0 c1 hb qA q hS0;go_wp2;refine bodyPost_ret (v:=cG ⟨1,nums[j],⟨#[]⟩⟩) (by simp[results,Tryz.results183,go_sem,r1,cG]) rfl ?_;obtain⟨e1,e2⟩:=eW.out;rw[e1,e2];have kF:=((k1.setCell (p:=⟨w.heap.size+1,0,none⟩) (by simp) (.int .i64 1)).setCell (p:=⟨w.heap.size+1,1,none⟩) (by simp) (.int .i64 nums[j])).setCell (p:=⟨w.heap.size+1,2,none⟩) (by simp) (.string ⟨#[]⟩);exact⟨rfl,Km.of kF,mv,HN.out.mono kF⟩
 by_cases h4:s.k=4
 ·have eW:Hid (bJ vals nums hl ms s=⟨4,(hl:Int)+posR ms s.n,⟨#[]⟩⟩/\metS ms s=meetR ms s.n):=by
   refine⟨?_,?_⟩
   ·unfold bJ;rw[if_neg h2,if_neg h3,if_pos h4]
   ·unfold metS;rw[if_pos h4]
  have v0:=ae qA.p;rw[h4] at s0 hS0 hwA;rw[h4];have hNA:=hN.mono hbA;clear hva hna hs h2 h3 h4 hv hN;go_enter Tryz.func183,Tryz.ntmps183
  go_upto_region 1 with fail
  rw[<-hwA];clear hwA;go_wp2_with fail
  refine (place_any mv ms s.n qA hNA hms hhl).mono ?_;rintro e w1 ⟨rfl,hk,mv',hN1⟩;have hR1:=hk.kept hR0 ⟨by decide,by decide⟩;have HK:Hid (Km lo w w1/\MetAt w1 lo nb mb mv' (meetR ms s.n)/\w.heap.size+1<w1.heap.size):=⟨(Km.of hbA).trans hk,hN1,ay hR1⟩;clear s0 v0 hk hN1 qA q hS0 hNA;go_wp2_with fail
  refine (recVal_any _ _).mono ?_;rintro e w2 ⟨rfl,hb⟩;have hR2:=ah hR1 hb;have r1:=ae hR2;have r2:=aq hR2;have HB:Hid (Below w1.heap.size w1 w2):=hb;clear hb;go_wp2;refine bodyPost_ret (v:=cG ⟨4,(hl:Int)+posR ms s.n,⟨#[]⟩⟩) (by simp[results,Tryz.results183,go_sem,r1,cG]) rfl ?_;obtain⟨e1,e2⟩:=eW.out;rw[e1,e2];obtain⟨q1,q2,-⟩:=HK.out;refine⟨rfl,(((q1.trans (Km.of HB.out)).setNew (by omega) _).setNew (by omega) _).setNew (by omega) _,mv',?_⟩;exact (((q2.mono HB.out).set hR2 ⟨by decide,by decide⟩ _).set (ak hR2 _) ⟨by decide,by decide⟩ _).set (ak (ak hR2 _) _) ⟨by decide,by decide⟩ _
 have eW:Hid (bJ vals nums hl ms s=s.v/\metS ms s=ms):=by
  refine⟨?_,?_⟩
  ·unfold bJ;rw[if_neg h2,if_neg h3,if_neg h4]
  ·unfold metS;rw[if_neg h4]
 have hsz:=hs.2.2;have HN:Hid (MetAt w lo nb mb mv ms):=hN;clear hva hna hs hv hN qA q;go_enter Tryz.func183,Tryz.ntmps183
 go_upto_region 1 with fail
 rw[<-hwA];clear hwA;go_wp2_with fail
 refine (dy _ _ _ _ hsz).mono ?_;rintro e w1 ⟨rfl,hb⟩;have hR1:=ah hR0 hb;have r1:=ae hR1;have r2:=aq hR1;have k1:Below w.heap.size w w1:=hbA.trans (hb.mono hbA.size);clear s0 hb hS0;go_wp2;refine bodyPost_ret (v:=cG s.v) (by simp[results,Tryz.results183,go_sem,r1,cG]) rfl ?_;obtain⟨e1,e2⟩:=eW.out;rw[e1,e2];have kF:=((k1.setCell (p:=⟨w.heap.size+1,0,none⟩) (by simp) (.int .i64 s.v.k)).setCell (p:=⟨w.heap.size+1,1,none⟩) (by simp) (.int .i64 s.v.n)).setCell (p:=⟨w.heap.size+1,2,none⟩) (by simp) (.string s.v.s);exact⟨rfl,Km.of kF,mv,HN.out.mono kF⟩
end Go.Proofs.YtbjmgmmekmfjhaaGreatDoor
