/- RV29 -/
import Derived.Test.YtbjmgmmekmfjhaaGreatDoorRV27
set_option maxHeartbeats 32000000
set_option maxRecDepth 100000
namespace Go.Proofs.YtbjmgmmekmfjhaaGreatDoor
open Go.RowKit
theorem sInt4_any(n:Int)(w:World):Calls Tryz.prog 250 #[.int .i64 n] w fun e w'=>e=.returned (.agg #[.int .i64 1,.int .i64 n,.string ⟨#[]⟩])/\Below w.heap.size w w':=by
 have hbA:Below w.heap.size w (w.alloc (.cells #[.int .i64 0,.int .i64 0,.string ⟨#[]⟩] 80)):=b_r.alloc n_l _;have hR1:=al w #[.int .i64 0,.int .i64 0,.string ⟨#[]⟩] 80;have r1:=ae hR1;have r2:=aq hR1;go_enter Tryz.func250,Tryz.ntmps250
 go_wp2;refine bodyPost_ret (v:=.agg #[.int .i64 1,.int .i64 n,.string ⟨#[]⟩]) (by simp[results,Tryz.results250,go_sem]) rfl ⟨rfl,?_⟩;first | exact hbA | (repeat (first | exact hbA | exact Nat.le_refl _ | exact b_r.alloc n_l _ | apply Below.setCell))
theorem sValue_any{x:Ex}{fa ra va na:Option Addr}{fc rc vc nc:Nat}{vals:List Vl}{nums:List Int}{first:Nat}{w:World}{K lo:Nat}{av ov:Value}{ms:List Int}(s:Sr)(hM:MkAt x fa ra va na fc rc vc nc vals nums first w K av ov ms)(hlo:lo<=K)(hml:ms.length<=1048576)(hfl:first<=1048576)(_hrl:x.recs.length<=1048576)(_hnv:vals.length<=1048576)(_hnn:nums.length<=1048576)
  (hva:aQ w 0 va vals)(hna:a9 w 0 na nums)(hs:et vals.length nums.length s)(hk:s.k=1\/s.k=2\/s.k=3\/s.k=4)(h4:s.k=4->0<=s.n/\s.n<(x.recs.length:Int)) :
  Calls Tryz.prog 177 #[.pointer (some ⟨K,0,none⟩),srAgg s] w fun e w'=>e=.returned (cG (bJ vals nums first ms s))/\Kd lo w w'/\∃av' ov',MkAt x fa ra va na fc rc vc nc vals nums first w' K av' ov' (metS ms s):=by
 unfold srAgg cG;obtain⟨wA,hwA⟩:∃wA,wA=(w.alloc (.cells #[.int .i64 s.k,.int .i64 s.n,.int .i64 s.v.k,.int .i64 s.v.n,.string s.v.s] 212)).alloc (.cells #[.int .i64 0,.int .i64 0,.string ⟨#[]⟩] 80):=⟨_,rfl⟩;have hbA:Below w.heap.size w wA:=by rw[hwA];exact (b_r.alloc n_l _).alloc (by simp) _
 have hS0:wA.heap[w.heap.size]?=some (.cells #[.int .i64 s.k,.int .i64 s.n,.int .i64 s.v.k,.int .i64 s.v.n,.string s.v.s] 212 (0,0)):=by rw[hwA];exact au (al _ _ _) _
 have hR0:wA.heap[w.heap.size+1]?=some (.cells #[.int .i64 0,.int .i64 0,.string ⟨#[]⟩] 80 (0,0)):=by rw[hwA];exact aA _ _ _ _ (by simp)
 have hKn:K<w.heap.size:=ay hM.blk;have MA:=hM.mono hbA;have s0:=ae hS0;have hbd:Below wA.heap.size wA wA.drew:=b_r.drew;by_cases h2:s.k=2
 ·obtain⟨j,hj,hjl⟩:∃j:Nat,s.n=(j:Int)/\j<vals.length:=⟨s.n.toNat,by have:=hs.1 h2;omega,by have:=hs.1 h2;omega⟩;have eW:Hid (bJ vals nums first ms s=vals[j]/\metS ms s=ms):=by
   refine⟨?_,?_⟩
   ·unfold bJ;rw[if_pos h2,hj,Int.toNat_natCast,List.getD_eq_getElem?_getD,List.getElem?_eq_getElem hjl];rfl
   ·unfold metS;rw[if_neg (by omega)]
  have HN:=hidE hM;obtain⟨b,off,rfl,-,c1,c2,c3⟩:=(hva.mono hbA) j hjl;have m0:=ae MA.blk;rw[h2,hj] at s0 hS0 hwA;rw[h2,hj];have hjI:(j:Int)<(vals.length:Int):=by omega
  have HN:=hidE hM;clear hva hna hs hk h4 h2 hj hM;go_enter Tryz.func177,Tryz.ntmps177
  go_upto_region 1 with fail
  rw[<-hwA];clear hwA;go_upto_region 5 with fail
  have hh:(fun w':World=>w'.cell? ⟨K,7,none⟩=some (.slice (some ⟨b,off,none⟩) vals.length vc)/\w'.cell? ⟨w.heap.size,1,none⟩=some (.int .i64 (j:Int))/\w'.cell? ⟨b,off+j*3,none⟩=some (.int .i64 vals[j].k)/\w'.cell? ⟨b,off+j*3+1,none⟩=some (.int .i64 vals[j].n)/\w'.cell? ⟨b,off+j*3+2,none⟩=some (.string vals[j].s)) wA.drew:=⟨cell_later hbd (by rw[m0];rfl),cell_later hbd (by rw[s0];rfl),cell_later hbd c1,cell_later hbd c2,cell_later hbd c3⟩;have r1:=ae hR0;have r2:=aq hR0;clear s0 m0 c1 c2 c3;refine bC (RS [8] (fun w':World=>w'.cell? ⟨K,7,none⟩=some (.slice (some ⟨b,off,none⟩) vals.length vc)/\w'.cell? ⟨w.heap.size,1,none⟩=some (.int .i64 (j:Int))/\w'.cell? ⟨b,off+j*3,none⟩=some (.int .i64 vals[j].k)/\w'.cell? ⟨b,off+j*3+1,none⟩=some (.int .i64 vals[j].n)/\w'.cell? ⟨b,off+j*3+2,none⟩=some (.string vals[j].s))) (by kernel_rfl) ?_;refine tkP (i:=0) (v:=?_) rfl (by kernel_rfl) (fun _ _ _ h=>h) ?_ ?_;rotate_left
  ·intro w';go_simp;try with_reducible rfl
  simp only[Act.put,List.setIfInBounds_toArray]
  refine tkP (i:=1) (v:=?_) rfl (by kernel_rfl) (fun _ _ _ h=>h) ?_ ?_;rotate_left
  ·intro w';go_simp;try with_reducible rfl
  simp only[Act.put]
  refine tkP (i:=2) (v:=?_) rfl (by kernel_rfl) (fun _ _ _ h=>h) ?_ ?_;rotate_left
  ·intro w';go_simp;try with_reducible rfl
  simp only[Act.put]
  refine tkS (i:=3) [6,7,8] (v:=?_) rfl (by kernel_rfl) (by kernel_rfl) (fun _ _ _ h=>h) ?_ hh ?_;rotate_left
  ·intro w' hSw;obtain⟨y0,y1,y2,y3,y4⟩:=hSw;go_simp;try with_reducible rfl
  simp only[Act.put]
  refine tkP (i:=4) (v:=?_) rfl (by kernel_rfl) (fun _ _ _ h=>h) ?_ ?_;rotate_left
  ·intro w';go_simp;try with_reducible rfl
  simp only[Act.put]
  refine tkS (i:=5) [6,7,8] (v:=?_) rfl (by kernel_rfl) (by kernel_rfl) (fun _ _ _ h=>h) ?_ hh ?_;rotate_left
  ·intro w' hSw;obtain⟨y0,y1,y2,y3,y4⟩:=hSw;go_simp;try with_reducible rfl
  simp only[Act.put]
  refine tkP (i:=6) (v:=?_) rfl (by kernel_rfl) (fun _ _ _ h=>h) ?_ ?_;rotate_left
  ·intro w';go_simp;try with_reducible rfl
  simp only[Act.put]
  refine tkS (i:=7) [8] (v:=?_) rfl (by kernel_rfl) (by kernel_rfl) (fun _ _ _ h=>h) ?_ hh ?_;rotate_left
  ·intro w' hSw;obtain⟨y0,y1,y2,y3,y4⟩:=hSw;go_simp;try with_reducible rfl
  simp only[Act.put]
  refine ba (i:=8) (o:=_) (by kernel_rfl) rfl (fun Kq hK=>?_);go_simp;refine hK.out _ _ (.inl (by decide)) ?_;clear hK Kq;try simp only[Act.put]
  refine bB (by kernel_rfl) ?_ _;have k1:Below w.heap.size w wA.drew:=hbA.trans (hbd.mono hbA.size);go_wp2;refine bodyPost_ret (v:=cG vals[j]) (by simp[results,Tryz.results177,go_sem,r1,cG]) rfl ?_;obtain⟨e1,e2⟩:=eW.out;rw[e1,e2];have kF:=((k1.setCell (p:=⟨w.heap.size+1,0,none⟩) (by simp) (.int .i64 vals[j].k)).setCell (p:=⟨w.heap.size+1,1,none⟩) (by simp) (.int .i64 vals[j].n)).setCell (p:=⟨w.heap.size+1,2,none⟩) (by simp) (.string vals[j].s);exact⟨rfl,Kd.of kF,av,ov,HN.out.mono kF⟩
 by_cases h3:s.k=3
 ·obtain⟨j,hj,hjl⟩:∃j:Nat,s.n=(j:Int)/\j<nums.length:=⟨s.n.toNat,by have:=hs.2.1 h3;omega,by have:=hs.2.1 h3;omega⟩;have eW:Hid (bJ vals nums first ms s=⟨1,nums[j],⟨#[]⟩⟩/\metS ms s=ms):=by
   refine⟨?_,?_⟩
   ·unfold bJ;rw[if_neg h2,if_pos h3,hj,Int.toNat_natCast,List.getD_eq_getElem?_getD,List.getElem?_eq_getElem hjl];rfl
   ·unfold metS;rw[if_neg (by omega)]
  obtain⟨b,off,rfl,-,c1⟩:=(hna.mono hbA) j hjl;have m0:=ae MA.blk;rw[h3,hj] at s0 hS0 hwA;rw[h3,hj];have hjI:(j:Int)<(nums.length:Int):=by omega
  have HN:=hidE hM;clear hva hna hs hk h4 h2 h3 hj hM;go_enter Tryz.func177,Tryz.ntmps177
  go_upto_region 1 with fail
  rw[<-hwA];clear hwA;go_upto_region 7 with fail
  have hh:(fun w':World=>w'.cell? ⟨K,8,none⟩=some (.slice (some ⟨b,off,none⟩) nums.length nc)/\w'.cell? ⟨w.heap.size,1,none⟩=some (.int .i64 (j:Int))/\w'.cell? ⟨b,off+j,none⟩=some (.int .i64 nums[j])) wA.drew:=⟨cell_later hbd (by rw[m0];rfl),cell_later hbd (by rw[s0];rfl),cell_later hbd c1⟩;clear s0 m0 c1;refine bC (RS [8,9] (fun w':World=>w'.cell? ⟨K,8,none⟩=some (.slice (some ⟨b,off,none⟩) nums.length nc)/\w'.cell? ⟨w.heap.size,1,none⟩=some (.int .i64 (j:Int))/\w'.cell? ⟨b,off+j,none⟩=some (.int .i64 nums[j]))) (by kernel_rfl) ?_;refine tkP (i:=0) (v:=?_) rfl (by kernel_rfl) (fun _ _ _ h=>h) ?_ ?_;rotate_left
  ·intro w';go_simp;try with_reducible rfl
  simp only[Act.put,List.setIfInBounds_toArray]
  refine tkP (i:=1) (v:=?_) rfl (by kernel_rfl) (fun _ _ _ h=>h) ?_ ?_;rotate_left
  ·intro w';go_simp;try with_reducible rfl
  simp only[Act.put]
  refine tkP (i:=2) (v:=?_) rfl (by kernel_rfl) (fun _ _ _ h=>h) ?_ ?_;rotate_left
  ·intro w';go_simp;try with_reducible rfl
  simp only[Act.put]
  refine tkS (i:=3) [6,7,8,9] (v:=?_) rfl (by kernel_rfl) (by kernel_rfl) (fun _ _ _ h=>h) ?_ hh ?_;rotate_left
  ·intro w' hSw;obtain⟨y0,y1,y2⟩:=hSw;go_simp;try with_reducible rfl
  simp only[Act.put]
  refine tkP (i:=4) (v:=?_) rfl (by kernel_rfl) (fun _ _ _ h=>h) ?_ ?_;rotate_left
  ·intro w';go_simp;try with_reducible rfl
  simp only[Act.put]
  refine tkS (i:=5) [6,7,8,9] (v:=?_) rfl (by kernel_rfl) (by kernel_rfl) (fun _ _ _ h=>h) ?_ hh ?_;rotate_left
  ·intro w' hSw;obtain⟨y0,y1,y2⟩:=hSw;go_simp;try with_reducible rfl
  simp only[Act.put]
  refine tkP (i:=6) (v:=?_) rfl (by kernel_rfl) (fun _ _ _ h=>h) ?_ ?_;rotate_left
  ·intro w';go_simp;try with_reducible rfl
  simp only[Act.put]
  refine tkS (i:=7) [8,9] (v:=?_) rfl (by kernel_rfl) (by kernel_rfl) (fun _ _ _ h=>h) ?_ hh ?_;rotate_left
  ·intro w' hSw;obtain⟨y0,y1,y2⟩:=hSw;go_simp;try with_reducible rfl
  simp only[Act.put]
  refine ba (i:=8) (o:=_) (by kernel_rfl) rfl (fun Kq hK=>?_);go_simp;refine (sInt4_any _ _).mono ?_;rintro e w1 ⟨rfl,hb⟩;have hR1:=ah (ah hR0 hbd) hb;have r1:=ae hR1;have r2:=aq hR1;refine hK.out _ _ (.inl (by decide)) ?_;clear hK Kq;try simp only[Act.put]
  refine ba (i:=9) (o:=_) (by kernel_rfl) rfl (fun Kq hK=>?_);go_simp;refine hK.out _ _ (.inl (by decide)) ?_;clear hK Kq;try simp only[Act.put]
  refine bB (by kernel_rfl) ?_ _;have k1:Below w.heap.size w w1:=(hbA.trans (hbd.mono hbA.size)).trans (hb.mono (hbA.trans (hbd.mono hbA.size)).size);go_wp2;refine bodyPost_ret (v:=cG ⟨1,nums[j],⟨#[]⟩⟩) (by simp[results,Tryz.results177,go_sem,r1,cG]) rfl ?_;obtain⟨e1,e2⟩:=eW.out;rw[e1,e2];have kF:=((k1.setCell (p:=⟨w.heap.size+1,0,none⟩) (by simp) (.int .i64 1)).setCell (p:=⟨w.heap.size+1,1,none⟩) (by simp) (.int .i64 nums[j])).setCell (p:=⟨w.heap.size+1,2,none⟩) (by simp) (.string ⟨#[]⟩);exact⟨rfl,Kd.of kF,av,ov,HN.out.mono kF⟩
 by_cases h1:s.k=1
 ·have eW:Hid (bJ vals nums first ms s=s.v/\metS ms s=ms):=by
   refine⟨?_,?_⟩
   ·unfold bJ;rw[if_neg h2,if_neg h3,if_neg (by omega)]
   ·unfold metS;rw[if_neg (by omega)]
  rw[h1] at s0 hS0 hwA;rw[h1];have HN:=hidE hM;clear hva hna hs hk h4 h2 h3 h1 hM;have r1:=ae hR0;have r2:=aq hR0;go_enter Tryz.func177,Tryz.ntmps177
  go_upto_region 1 with fail
  rw[<-hwA];clear hwA;have k1:=hbA;go_wp2;refine bodyPost_ret (v:=cG s.v) (by simp[results,Tryz.results177,go_sem,r1,cG]) rfl ?_;obtain⟨e1,e2⟩:=eW.out;rw[e1,e2];have kF:=((k1.setCell (p:=⟨w.heap.size+1,0,none⟩) (by simp) (.int .i64 s.v.k)).setCell (p:=⟨w.heap.size+1,1,none⟩) (by simp) (.int .i64 s.v.n)).setCell (p:=⟨w.heap.size+1,2,none⟩) (by simp) (.string s.v.s);exact⟨rfl,Kd.of kF,av,ov,HN.out.mono kF⟩
 have h4k:s.k=4:=by omega
 obtain⟨r,hr,hrl2⟩:∃r:Nat,s.n=(r:Int)/\r<x.recs.length:=⟨s.n.toNat,by have:=h4 h4k;omega,by have:=h4 h4k;omega⟩;have eW:Hid (bJ vals nums first ms s=⟨4,(first:Int)+posR ms r,⟨#[]⟩⟩/\metS ms s=meetR ms r):=by
  refine⟨?_,?_⟩
  ·unfold bJ;rw[if_neg h2,if_neg h3,if_pos h4k,hr]
  ·unfold metS;rw[if_pos h4k,hr]
 obtain⟨ab,cap,rfl,habl,a0,curA,hab⟩:=MA.cell hrl2;have m0:=ae MA.blk;rw[h4k,hr] at s0 hS0 hwA;rw[h4k,hr];have hrI:(r:Int)<(x.recs.length:Int):=by omega
 have k1:Below w.heap.size w wA.drew:=hbA.trans (hbd.mono hbA.size);have MD:=MA.mono hbd;have hR1:=ah hR0 hbd;have hS1:=ah hS0 hbd;clear hva hna hs hk h4 h2 h3 h1 h4k hr;by_cases hin:(r:Int)∈ms
 ·have ea:atI first ms r=(first:Int)+posR ms r:=by unfold atI;rw[if_pos hin]
  rw[ea] at a0;have HIN:Hid ((r:Int)∈ms):=hin;have hnn2:¬((first:Int)+(posR ms r:Nat)<0):=by omega
  clear hin ea;go_enter Tryz.func177,Tryz.ntmps177
  go_upto_region 1 with fail
  rw[<-hwA];clear hwA;go_upto_region 8 with fail
  have hh:(fun w':World=>w'.cell? ⟨K,10,none⟩=some (.slice (some ⟨ab,0,none⟩) x.recs.length cap)/\w'.cell? ⟨w.heap.size,1,none⟩=some (.int .i64 (r:Int))/\w'.cell? ⟨ab,r,none⟩=some (.int .i64 ((first:Int)+posR ms r))) wA.drew:=⟨cell_later hbd (by rw[m0];rfl),cell_later hbd (by rw[s0];rfl),cell_later hbd a0⟩
  clear s0 m0 a0;refine bC (RS [] (fun w':World=>w'.cell? ⟨K,10,none⟩=some (.slice (some ⟨ab,0,none⟩) x.recs.length cap)/\w'.cell? ⟨w.heap.size,1,none⟩=some (.int .i64 (r:Int))/\w'.cell? ⟨ab,r,none⟩=some (.int .i64 ((first:Int)+posR ms r)))) (by kernel_rfl) ?_
  refine tkP (i:=0) (v:=?_) rfl (by kernel_rfl) (fun _ _ _ h=>h) ?_ ?_;rotate_left
  ·intro w';go_simp;try with_reducible rfl
  simp only[Act.put,List.setIfInBounds_toArray]
  refine tkP (i:=1) (v:=?_) rfl (by kernel_rfl) (fun _ _ _ h=>h) ?_ ?_;rotate_left
  ·intro w';go_simp;try with_reducible rfl
  simp only[Act.put]
  refine tkP (i:=2) (v:=?_) rfl (by kernel_rfl) (fun _ _ _ h=>h) ?_ ?_;rotate_left
  ·intro w';go_simp;try with_reducible rfl
  simp only[Act.put]
  refine tkS (i:=3) [6,7,8] (v:=?_) rfl (by kernel_rfl) (by kernel_rfl) (fun _ _ _ h=>h) ?_ hh ?_;rotate_left
  ·intro w' hSw;obtain⟨y0,y1,y2⟩:=hSw;go_simp;try with_reducible rfl
  simp only[Act.put]
  refine tkP (i:=4) (v:=?_) rfl (by kernel_rfl) (fun _ _ _ h=>h) ?_ ?_;rotate_left
  ·intro w';go_simp;try with_reducible rfl
  simp only[Act.put]
  refine tkS (i:=5) [6,7,8] (v:=?_) rfl (by kernel_rfl) (by kernel_rfl) (fun _ _ _ h=>h) ?_ hh ?_;rotate_left
  ·intro w' hSw;obtain⟨y0,y1,y2⟩:=hSw;go_simp;try with_reducible rfl
  simp only[Act.put]
  refine tkP (i:=6) (v:=?_) rfl (by kernel_rfl) (fun _ _ _ h=>h) ?_ ?_;rotate_left
  ·intro w';go_simp;try with_reducible rfl
  simp only[Act.put]
  refine tkS (i:=7) [8] (v:=?_) rfl (by kernel_rfl) (by kernel_rfl) (fun _ _ _ h=>h) ?_ hh ?_;rotate_left
  ·intro w' hSw;obtain⟨y0,y1,y2⟩:=hSw;go_simp;try with_reducible rfl
  simp only[Act.put]
  refine tkP (i:=8) (v:=?_) rfl (by kernel_rfl) (fun _ _ _ h=>h) ?_ ?_;rotate_left
  ·intro w';go_simp;try with_reducible rfl
  simp only[Act.put]
  refine bB (by kernel_rfl) ?_ _;go_simp;go_upto_region 11 with fail
  have hbd2:Below wA.drew.heap.size wA.drew wA.drew.drew:=b_r.drew;have hh2:(fun w':World=>w'.cell? ⟨K,10,none⟩=some (.slice (some ⟨ab,0,none⟩) x.recs.length cap)/\w'.cell? ⟨w.heap.size,1,none⟩=some (.int .i64 (r:Int))/\w'.cell? ⟨ab,r,none⟩=some (.int .i64 ((first:Int)+posR ms r))) wA.drew.drew:=⟨cell_later hbd2 hh.1,cell_later hbd2 hh.2.1,cell_later hbd2 hh.2.2⟩
  have r1:=ae hR0;have r2:=aq hR0;have k2:=k1.trans (hbd2.mono k1.size);clear hh;refine bC (RS [9] (fun w':World=>w'.cell? ⟨K,10,none⟩=some (.slice (some ⟨ab,0,none⟩) x.recs.length cap)/\w'.cell? ⟨w.heap.size,1,none⟩=some (.int .i64 (r:Int))/\w'.cell? ⟨ab,r,none⟩=some (.int .i64 ((first:Int)+posR ms r)))) (by kernel_rfl) ?_
  refine tkP (i:=0) (v:=?_) rfl (by kernel_rfl) (fun _ _ _ h=>h) ?_ ?_;rotate_left
  ·intro w';go_simp;try with_reducible rfl
  simp only[Act.put,List.setIfInBounds_toArray]
  refine tkP (i:=1) (v:=?_) rfl (by kernel_rfl) (fun _ _ _ h=>h) ?_ ?_;rotate_left
  ·intro w';go_simp;try with_reducible rfl
  simp only[Act.put]
  refine tkP (i:=2) (v:=?_) rfl (by kernel_rfl) (fun _ _ _ h=>h) ?_ ?_;rotate_left
  ·intro w';go_simp;try with_reducible rfl
  simp only[Act.put]
  refine tkS (i:=3) [6,7,8,9] (v:=?_) rfl (by kernel_rfl) (by kernel_rfl) (fun _ _ _ h=>h) ?_ hh2 ?_;rotate_left
  ·intro w' hSw;obtain⟨y0,y1,y2⟩:=hSw;go_simp;try with_reducible rfl
  simp only[Act.put]
  refine tkP (i:=4) (v:=?_) rfl (by kernel_rfl) (fun _ _ _ h=>h) ?_ ?_;rotate_left
  ·intro w';go_simp;try with_reducible rfl
  simp only[Act.put]
  refine tkS (i:=5) [6,7,8,9] (v:=?_) rfl (by kernel_rfl) (by kernel_rfl) (fun _ _ _ h=>h) ?_ hh2 ?_;rotate_left
  ·intro w' hSw;obtain⟨y0,y1,y2⟩:=hSw;go_simp;try with_reducible rfl
  simp only[Act.put]
  refine tkP (i:=6) (v:=?_) rfl (by kernel_rfl) (fun _ _ _ h=>h) ?_ ?_;rotate_left
  ·intro w';go_simp;try with_reducible rfl
  simp only[Act.put]
  refine tkS (i:=7) [8,9] (v:=?_) rfl (by kernel_rfl) (by kernel_rfl) (fun _ _ _ h=>h) ?_ hh2 ?_;rotate_left
  ·intro w' hSw;obtain⟨y0,y1,y2⟩:=hSw;go_simp;try with_reducible rfl
  simp only[Act.put]
  refine tkP (i:=8) (v:=?_) rfl (by kernel_rfl) (fun _ _ _ h=>h) ?_ ?_;rotate_left
  ·intro w';go_simp;try with_reducible rfl
  simp only[Act.put]
  refine ba (i:=9) (o:=_) (by kernel_rfl) rfl (fun Kq hK=>?_);go_simp;refine hK.out _ _ (.inl (by decide)) ?_;clear hK Kq;try simp only[Act.put]
  refine bB (by kernel_rfl) ?_ _;go_wp2;refine bodyPost_ret (v:=cG ⟨4,(first:Int)+posR ms r,⟨#[]⟩⟩) (by simp[results,Tryz.results177,go_sem,r1,cG]) rfl ?_
  obtain⟨e1,e2⟩:=eW.out;rw[e1,e2,meetR_old HIN.out];have kF:=((k2.setCell (p:=⟨w.heap.size+1,0,none⟩) (by simp) (.int .i64 4)).setCell (p:=⟨w.heap.size+1,1,none⟩) (by simp) (.int .i64 ((first:Int)+posR ms r))).setCell (p:=⟨w.heap.size+1,2,none⟩) (by simp) (.string ⟨#[]⟩)
  exact⟨rfl,Kd.of kF,_,ov,hM.mono kF⟩
 ·have ea:atI first ms r=-1:=by unfold atI;rw[if_neg hin]
  rw[ea] at a0;have HIN:Hid ((r:Int)∉ms):=hin;obtain⟨oa,oc,rfl⟩:∃a c,ov=.slice a ms.length c:=by
   rcases hM.ord.2 with ⟨e,h0⟩ | ⟨b,cp,cu,e,-⟩
   ·exact⟨none,0,by rw[e,h0]⟩
   ·exact⟨_,cp,e⟩
  obtain⟨i0,hi0,hz0,hz1,hz2⟩:=info_parts info3;have hwp:IntKind.i64.wrap ((first:Int)+(ms.length:Int))=(first:Int)+(ms.length:Int):=by rw[IntKind.wrap_i64];omega
  clear hin ea;go_enter Tryz.func177,Tryz.ntmps177
  go_upto_region 1 with fail
  rw[<-hwA];clear hwA;go_upto_region 8 with fail
  have hh:(fun w':World=>w'.cell? ⟨K,10,none⟩=some (.slice (some ⟨ab,0,none⟩) x.recs.length cap)/\w'.cell? ⟨w.heap.size,1,none⟩=some (.int .i64 (r:Int))/\w'.cell? ⟨ab,r,none⟩=some (.int .i64 (-1))) wA.drew:=⟨cell_later hbd (by rw[m0];rfl),cell_later hbd (by rw[s0];rfl),cell_later hbd a0⟩;clear s0;refine bC (RS [] (fun w':World=>w'.cell? ⟨K,10,none⟩=some (.slice (some ⟨ab,0,none⟩) x.recs.length cap)/\w'.cell? ⟨w.heap.size,1,none⟩=some (.int .i64 (r:Int))/\w'.cell? ⟨ab,r,none⟩=some (.int .i64 (-1)))) (by kernel_rfl) ?_;refine tkP (i:=0) (v:=?_) rfl (by kernel_rfl) (fun _ _ _ h=>h) ?_ ?_;rotate_left
  ·intro w';go_simp;try with_reducible rfl
  simp only[Act.put,List.setIfInBounds_toArray]
  refine tkP (i:=1) (v:=?_) rfl (by kernel_rfl) (fun _ _ _ h=>h) ?_ ?_;rotate_left
  ·intro w';go_simp;try with_reducible rfl
  simp only[Act.put]
  refine tkP (i:=2) (v:=?_) rfl (by kernel_rfl) (fun _ _ _ h=>h) ?_ ?_;rotate_left
  ·intro w';go_simp;try with_reducible rfl
  simp only[Act.put]
  refine tkS (i:=3) [6,7,8] (v:=?_) rfl (by kernel_rfl) (by kernel_rfl) (fun _ _ _ h=>h) ?_ hh ?_;rotate_left
  ·intro w' hSw;obtain⟨y0,y1,y2⟩:=hSw;go_simp;try with_reducible rfl
  simp only[Act.put]
  refine tkP (i:=4) (v:=?_) rfl (by kernel_rfl) (fun _ _ _ h=>h) ?_ ?_;rotate_left
  ·intro w';go_simp;try with_reducible rfl
  simp only[Act.put]
  refine tkS (i:=5) [6,7,8] (v:=?_) rfl (by kernel_rfl) (by kernel_rfl) (fun _ _ _ h=>h) ?_ hh ?_;rotate_left
  ·intro w' hSw;obtain⟨y0,y1,y2⟩:=hSw;go_simp;try with_reducible rfl
  simp only[Act.put]
  refine tkP (i:=6) (v:=?_) rfl (by kernel_rfl) (fun _ _ _ h=>h) ?_ ?_;rotate_left
  ·intro w';go_simp;try with_reducible rfl
  simp only[Act.put]
  refine tkS (i:=7) [8] (v:=?_) rfl (by kernel_rfl) (by kernel_rfl) (fun _ _ _ h=>h) ?_ hh ?_;rotate_left
  ·intro w' hSw;obtain⟨y0,y1,y2⟩:=hSw;go_simp;try with_reducible rfl
  simp only[Act.put]
  refine tkP (i:=8) (v:=?_) rfl (by kernel_rfl) (fun _ _ _ h=>h) ?_ ?_;rotate_left
  ·intro w';go_simp;try with_reducible rfl
  simp only[Act.put]
  refine bB (by kernel_rfl) ?_ _;go_simp;go_upto_region 9 with fail
  have hbd2:Below wA.drew.heap.size wA.drew wA.drew.drew:=b_r.drew;have hbdd:=hbd.trans (hbd2.mono hbd.size);have hh2:(fun w':World=>w'.cell? ⟨K,10,none⟩=some (.slice (some ⟨ab,0,none⟩) x.recs.length cap)/\w'.cell? ⟨w.heap.size,1,none⟩=some (.int .i64 (r:Int))/\w'.cell? ⟨K,9,none⟩=some (.int .i64 (first:Nat))/\w'.cell? ⟨K,11,none⟩=some (.slice oa ms.length oc)) wA.drew.drew:=⟨cell_later hbd2 hh.1,cell_later hbd2 hh.2.1,cell_later hbdd (by rw[m0];rfl),cell_later hbdd (by rw[m0];rfl)⟩
  have MD2:=MD.mono hbd2;have hab2:=ah hab hbdd;have a2:wA.cell? ⟨ab,r,none⟩=some (.int .i64 (-1)):=a0;have a3:=aq hab;have k2:=k1.trans (hbd2.mono k1.size);clear hh m0;refine bC (RS [17] (fun w':World=>w'.cell? ⟨K,10,none⟩=some (.slice (some ⟨ab,0,none⟩) x.recs.length cap)/\w'.cell? ⟨w.heap.size,1,none⟩=some (.int .i64 (r:Int))/\w'.cell? ⟨K,9,none⟩=some (.int .i64 (first:Nat))/\w'.cell? ⟨K,11,none⟩=some (.slice oa ms.length oc))) (by kernel_rfl) ?_
  refine tkP (i:=0) (v:=?_) rfl (by kernel_rfl) (fun _ _ _ h=>h) ?_ ?_;rotate_left
  ·intro w';go_simp;try with_reducible rfl
  simp only[Act.put,List.setIfInBounds_toArray]
  refine tkP (i:=1) (v:=?_) rfl (by kernel_rfl) (fun _ _ _ h=>h) ?_ ?_;rotate_left
  ·intro w';go_simp;try with_reducible rfl
  simp only[Act.put]
  refine tkP (i:=2) (v:=?_) rfl (by kernel_rfl) (fun _ _ _ h=>h) ?_ ?_;rotate_left
  ·intro w';go_simp;try with_reducible rfl
  simp only[Act.put]
  refine tkS (i:=3) [16,17] (v:=?_) rfl (by kernel_rfl) (by kernel_rfl) (fun _ _ _ h=>h) ?_ hh2 ?_;rotate_left
  ·intro w' hSw;obtain⟨y0,y1,y2,y3⟩:=hSw;go_simp;try with_reducible rfl
  simp only[Act.put]
  refine tkP (i:=4) (v:=?_) rfl (by kernel_rfl) (fun _ _ _ h=>h) ?_ ?_;rotate_left
  ·intro w';go_simp;try with_reducible rfl
  simp only[Act.put]
  refine tkS (i:=5) [16,17] (v:=?_) rfl (by kernel_rfl) (by kernel_rfl) (fun _ _ _ h=>h) ?_ hh2 ?_;rotate_left
  ·intro w' hSw;obtain⟨y0,y1,y2,y3⟩:=hSw;go_simp;try with_reducible rfl
  simp only[Act.put]
  refine tkP (i:=6) (v:=?_) rfl (by kernel_rfl) (fun _ _ _ h=>h) ?_ ?_;rotate_left
  ·intro w';go_simp;try with_reducible rfl
  simp only[Act.put]
  refine tkP (i:=7) (v:=?_) rfl (by kernel_rfl) (fun _ _ _ h=>h) ?_ ?_;rotate_left
  ·intro w';go_simp;try with_reducible rfl
  simp only[Act.put]
  refine tkP (i:=8) (v:=?_) rfl (by kernel_rfl) (fun _ _ _ h=>h) ?_ ?_;rotate_left
  ·intro w';go_simp;try with_reducible rfl
  simp only[Act.put]
  refine tkS (i:=9) [15,17] (v:=?_) rfl (by kernel_rfl) (by kernel_rfl) (fun _ _ _ h=>h) ?_ hh2 ?_;rotate_left
  ·intro w' hSw;obtain⟨y0,y1,y2,y3⟩:=hSw;go_simp;try with_reducible rfl
  simp only[Act.put]
  refine tkP (i:=10) (v:=?_) rfl (by kernel_rfl) (fun _ _ _ h=>h) ?_ ?_;rotate_left
  ·intro w';go_simp;try with_reducible rfl
  simp only[Act.put]
  refine tkP (i:=11) (v:=?_) rfl (by kernel_rfl) (fun _ _ _ h=>h) ?_ ?_;rotate_left
  ·intro w';go_simp;try with_reducible rfl
  simp only[Act.put]
  refine tkP (i:=12) (v:=?_) rfl (by kernel_rfl) (fun _ _ _ h=>h) ?_ ?_;rotate_left
  ·intro w';go_simp;try with_reducible rfl
  simp only[Act.put]
  refine tkS (i:=13) [14,15,17] (v:=?_) rfl (by kernel_rfl) (by kernel_rfl) (fun _ _ _ h=>h) ?_ hh2 ?_;rotate_left
  ·intro w' hSw;obtain⟨y0,y1,y2,y3⟩:=hSw;go_simp;try with_reducible rfl
  simp only[Act.put]
  refine tkP (i:=14) (v:=?_) rfl (by kernel_rfl) (fun _ _ _ h=>h) ?_ ?_;rotate_left
  ·intro w';go_simp;try with_reducible rfl
  simp only[Act.put]
  refine tkP (i:=15) (v:=?_) rfl (by kernel_rfl) (fun _ _ _ h=>h) ?_ ?_;rotate_left
  ·intro w';go_simp;try with_reducible rfl
  simp only[Act.put]
  refine tkP (i:=16) (v:=?_) rfl (by kernel_rfl) (fun _ _ _ h=>h) ?_ ?_;rotate_left
  ·intro w';go_simp;try with_reducible rfl
  simp only[Act.put]
  refine ba (i:=17) (o:=_) (by kernel_rfl) rfl (fun Kq hK=>?_);go_simp;refine hK.out _ _ (.inl (by decide)) ?_;clear hK Kq;try simp only[Act.put]
  refine bB (by kernel_rfl) ?_ _;have P3:=MD2.put hrl2 HIN.out rfl;obtain⟨w3,hw3⟩:∃w3,w3=wA.drew.drew.setCell ⟨ab,r,none⟩ (.int .i64 ((first:Int)+(ms.length:Nat))):=⟨_,rfl⟩
  rw[<-hw3] at P3;have hw3':(wA.setCell ⟨ab,r,none⟩ (.int .i64 ((first:Int)+(ms.length:Nat)))).drew.drew=w3:=by rw[hw3];rfl
  rw[hw3'];clear hw3';have hAb3:w3.heap[ab]?=some (.cells (curA.setIfInBounds r (.int .i64 ((first:Int)+(ms.length:Nat)))) 3 (0,0)):=by rw[hw3];exact ak hab2 _
  have K3:Kd lo w w3:=by rw[hw3];exact (Kd.of k2).setO hab2 (by omega) (fun h=>h.2 rfl) _
  have hS3:w3.heap[w.heap.size]?=some (.cells #[.int .i64 4,.int .i64 (r:Int),.int .i64 s.v.k,.int .i64 s.v.n,.string s.v.s] 212 (0,0)):=by
   have h1:=ah hS1 hbd2;rw[hw3,Below.heap_setCell _ _ _ _ (show w.heap.size≠ab from fun e=>by rw[<-e,h1] at hab2;cases hab2)]
   exact h1
  have hR3:w3.heap[w.heap.size+1]?=some (.cells #[.int .i64 0,.int .i64 0,.string ⟨#[]⟩] 80 (0,0)):=by
   have h1:=ah hR1 hbd2;rw[hw3,Below.heap_setCell _ _ _ _ (show w.heap.size+1≠ab from fun e=>by rw[<-e,h1] at hab2;cases hab2)]
   exact h1
  have hapt:=hM.apart;clear hw3 a0 a2 a3 hh2 MD2 MD MA hM hS0 hR0 hS1 hR1 hab hab2;go_upto_region 10 with fail
  have hbd3:Below w3.heap.size w3 w3.drew:=b_r.drew;have hh3:(fun w':World=>w'.cell? ⟨K,11,none⟩=some (.slice oa ms.length oc)/\w'.cell? ⟨w.heap.size,1,none⟩=some (.int .i64 (r:Int))) w3.drew:=⟨cell_later hbd3 (by rw[ae P3.1];rfl),cell_later hbd3 (ckc hS3 rfl)⟩;refine bC (RS [8,11] (fun w':World=>w'.cell? ⟨K,11,none⟩=some (.slice oa ms.length oc)/\w'.cell? ⟨w.heap.size,1,none⟩=some (.int .i64 (r:Int)))) (by kernel_rfl) ?_;refine tkP (i:=0) (v:=?_) rfl (by kernel_rfl) (fun _ _ _ h=>h) ?_ ?_;rotate_left
  ·intro w';go_simp;try with_reducible rfl
  simp only[Act.put,List.setIfInBounds_toArray]
  refine tkP (i:=1) (v:=?_) rfl (by kernel_rfl) (fun _ _ _ h=>h) ?_ ?_;rotate_left
  ·intro w';go_simp;try with_reducible rfl
  simp only[Act.put]
  refine tkP (i:=2) (v:=?_) rfl (by kernel_rfl) (fun _ _ _ h=>h) ?_ ?_;rotate_left
  ·intro w';go_simp;try with_reducible rfl
  simp only[Act.put]
  refine tkP (i:=3) (v:=?_) rfl (by kernel_rfl) (fun _ _ _ h=>h) ?_ ?_;rotate_left
  ·intro w';go_simp;try with_reducible rfl
  simp only[Act.put]
  refine tkS (i:=4) [8,11] (v:=?_) rfl (by kernel_rfl) (by kernel_rfl) (fun _ _ _ h=>h) ?_ hh3 ?_;rotate_left
  ·intro w' hSw;obtain⟨y0,y1⟩:=hSw;go_simp;try with_reducible rfl
  simp only[Act.put]
  refine tkP (i:=5) (v:=?_) rfl (by kernel_rfl) (fun _ _ _ h=>h) ?_ ?_;rotate_left
  ·intro w';go_simp;try with_reducible rfl
  simp only[Act.put]
  refine tkS (i:=6) [7,8,11] (v:=?_) rfl (by kernel_rfl) (by kernel_rfl) (fun _ _ _ h=>h) ?_ hh3 ?_;rotate_left
  ·intro w' hSw;obtain⟨y0,y1⟩:=hSw;go_simp;try with_reducible rfl
  simp only[Act.put]
  refine ba (i:=7) (o:=_) (by kernel_rfl) rfl (fun Kq hK=>?_);go_simp;have hbe:Below w3.drew.heap.size w3.drew (w3.drew.alloc (.cells #[.int .i64 (r:Int)] 3)):=b_r.alloc n_l _;have hh3:(fun w':World=>w'.cell? ⟨K,11,none⟩=some (.slice oa ms.length oc)/\w'.cell? ⟨w.heap.size,1,none⟩=some (.int .i64 (r:Int))) (w3.drew.alloc (.cells #[.int .i64 (r:Int)] 3)):=⟨cell_later hbe hh3.1,cell_later hbe hh3.2⟩;refine hK.out _ _ (.inr (fun _=>hh3)) ?_;clear hK Kq;try simp only[Act.put]
  refine ba (i:=8) (o:=_) (by kernel_rfl) rfl (fun Kq hK=>?_);refine step_append_lies _ rfl _ _ 50 rfl (K+1) 3 i0 (.int .i64 0) 1 8 Tryz.underlying50 hi0 hz0 hz1 hz2 rfl (by decide) (.slice oa ms.length oc) _ _ rfl (aX (aX P3.2.2 hbd3) hbe) ⟨w3.drew.heap.size,0,none⟩ 1 1 [.int .i64 r] rfl rfl (World.news_of_block (cs:=#[.int .i64 (r:Int)]) (t:=3) (fr:=(0,0)) (heap_alloc_new w3.drew _)) (by simp[Value.oneCell']) (by decide) (by unfold maxLen;omega) (by omega) (by have:=ay P3.1;simp;omega) (w3.heap.size+1) (by simp) ?_;intro g3 cap3 w4 hown4 hgrow4 hat4 hlt4;have keep4:∀(b:Nat) (o:Obj),some b≠(Value.slice oa ms.length oc).ownBlock->w3.heap[b]?=some o->w4.heap[b]?=some o:=fun b o hb ho=>by
   have h1:=ah (ah ho hbd3) hbe;rw[hgrow4.block b (ay h1) hb];exact h1
  have nK:some K≠(Value.slice oa ms.length oc).ownBlock:=fun e=>by have:=((aX (aX P3.2.2 hbd3) hbe).lt K e.symm).1;omega
  have hK4:=keep4 _ _ nK P3.1;have n4:=ae hK4;have f4:=aq hK4;refine hK.out _ _ (.inl (by decide)) ?_;clear hK Kq;try simp only[Act.put]
  refine tkP (i:=9) (v:=?_) rfl (by kernel_rfl) (fun _ _ _ h=>h) ?_ ?_;rotate_left
  ·intro w';go_simp;try with_reducible rfl
  simp only[Act.put]
  refine tkP (i:=10) (v:=?_) rfl (by kernel_rfl) (fun _ _ _ h=>h) ?_ ?_;rotate_left
  ·intro w';go_simp;try with_reducible rfl
  simp only[Act.put]
  refine ba (i:=11) (o:=_) (by kernel_rfl) rfl (fun Kq hK=>?_);go_simp;refine hK.out _ _ (.inl (by decide)) ?_;clear hK Kq;try simp only[Act.put]
  refine bB (by kernel_rfl) ?_ _;have nA:some ab≠(Value.slice oa ms.length oc).ownBlock:=fun e=>hapt ab rfl e.symm
  have hA4:=keep4 _ _ nA hAb3;have nS:some w.heap.size≠(Value.slice oa ms.length oc).ownBlock:=fun e=>by
   rcases P3.2.2.2 with ⟨e1,-⟩ | ⟨b,cp,cu,e1,-,hh9,-⟩
   ·rw[e1] at e;simp[Value.ownBlock] at e
   ·rw[e1] at e;simp[Value.ownBlock] at e;rw[<-e,hS3] at hh9;cases hh9
  have nR:some (w.heap.size+1)≠(Value.slice oa ms.length oc).ownBlock:=fun e=>by
   rcases P3.2.2.2 with ⟨e1,-⟩ | ⟨b,cp,cu,e1,-,hh9,-⟩
   ·rw[e1] at e;simp[Value.ownBlock] at e
   ·rw[e1] at e;simp[Value.ownBlock] at e;rw[<-e,hR3] at hh9;cases hh9
  have hS4:=keep4 _ _ nS hS3;have hR4:=keep4 _ _ nR hR3;have K4:Kd lo w w4:=((K3.trans (Kd.of hbd3)).trans (Kd.of hbe)).grown (aX (aX P3.2.2 hbd3) hbe) hgrow4 (by omega);have hg3:K+1<=g3/\w4.heap[g3]?.isSome/\g3≠ab:=by
   rcases hown4.2 with ⟨e,-⟩ | ⟨b,cp,cu,e,hb,hh9,-⟩
   ·cases e
   ·cases e;refine⟨hb,by rw[hh9];rfl,fun e=>?_⟩;rcases hat4 with h | h
    ·exact nA (by rw[h,e])
    ·have:=ay hAb3;rw[h] at e;omega
  have M5:MkAt x fa ra va na fc rc vc nc vals nums first (w4.setCell ⟨K,11,none⟩ (.slice (some ⟨g3,0,none⟩) (ms.length+1) cap3)) K (.slice (some ⟨ab,0,none⟩) x.recs.length cap) (.slice (some ⟨g3,0,none⟩) (ms.length+1) cap3) (ms++[(r:Int)]):=by
   refine⟨?_,⟨P3.2.1.1,?_⟩,?_,fun b hb he=>?_⟩
   ·have:=ak (i:=11) hK4 (.slice (some ⟨g3,0,none⟩) (ms.length+1) cap3);simpa using this
   ·rcases P3.2.1.2 with ⟨e,-⟩ | ⟨b,cp,cu,e,hb,hh9,rr⟩
    ·cases e
    ·cases e;exact .inr ⟨ab,cap,cu,rfl,hb,by rw[Below.heap_setCell _ _ _ _ (show ab≠K by omega)];exact keep4 _ _ nA hh9,rr⟩
   ·have e1:(ms++[(r:Int)]).length=ms.length+1:=by simp
    have e2:((ms++[(r:Int)]).map (Value.int .i64))=(ms.map (Value.int .i64))++[.int .i64 (r:Int)]:=by simp
    rw[e1,e2];refine⟨hown4.1,?_⟩;rcases hown4.2 with ⟨e,-⟩ | ⟨b,cp,cu,e,hb,hh9,rr⟩
    ·cases e
    ·cases e;exact .inr ⟨g3,cap3,cu,rfl,hb,by rw[Below.heap_setCell _ _ _ _ (show g3≠K by omega)];exact hh9,rr⟩
   ·simp[Value.ownBlock] at hb he
    exact hg3.2.2 (he.trans hb.symm)
  obtain⟨w5,hw5⟩:∃w5,w5=w4.setCell ⟨K,11,none⟩ (.slice (some ⟨g3,0,none⟩) (ms.length+1) cap3):=⟨_,rfl⟩;rw[<-hw5] at M5 ⊢;have K5:Kd lo w w5:=by rw[hw5];exact K4.setO hK4 hlo (fun h=>h.1 rfl) _
  have hS5:w5.heap[w.heap.size]?=some (.cells #[.int .i64 4,.int .i64 (r:Int),.int .i64 s.v.k,.int .i64 s.v.n,.string s.v.s] 212 (0,0)):=by rw[hw5,Below.heap_setCell _ _ _ _ (show w.heap.size≠K by omega)];exact hS4
  have hR5:w5.heap[w.heap.size+1]?=some (.cells #[.int .i64 0,.int .i64 0,.string ⟨#[]⟩] 80 (0,0)):=by rw[hw5,Below.heap_setCell _ _ _ _ (show w.heap.size+1≠K by omega)];exact hR4
  have a5:w5.cell? ⟨ab,r,none⟩=some (.int .i64 ((first:Int)+(ms.length:Nat))):=by
   obtain⟨ab2,cap2,e,-,h5,-⟩:=M5.cell hrl2
   cases e;rw[h5,atI_meet r HIN.out,if_pos rfl]
  clear hw5 hh3 hbd3 hbe hown4 hgrow4 hat4 hlt4 keep4 nK hK4 n4 f4 nA hA4 nS nR hS4 hR4 K4 hg3 hAb3 K3 hS3 hR3 hapt P3;go_upto_region 11 with fail
  have hbd5:Below w5.heap.size w5 w5.drew:=b_r.drew;have hh5:(fun w':World=>w'.cell? ⟨K,10,none⟩=some (.slice (some ⟨ab,0,none⟩) x.recs.length cap)/\w'.cell? ⟨w.heap.size,1,none⟩=some (.int .i64 (r:Int))/\w'.cell? ⟨ab,r,none⟩=some (.int .i64 ((first:Int)+(ms.length:Nat)))) w5.drew:=⟨cell_later hbd5 (by rw[ae M5.blk];rfl),cell_later hbd5 (ckc hS5 rfl),cell_later hbd5 a5⟩
  have hR6:=ah hR5 hbd5;have r1:=ae hR5;have r2:=aq hR5;refine bC (RS [9] (fun w':World=>w'.cell? ⟨K,10,none⟩=some (.slice (some ⟨ab,0,none⟩) x.recs.length cap)/\w'.cell? ⟨w.heap.size,1,none⟩=some (.int .i64 (r:Int))/\w'.cell? ⟨ab,r,none⟩=some (.int .i64 ((first:Int)+(ms.length:Nat))))) (by kernel_rfl) ?_
  refine tkP (i:=0) (v:=?_) rfl (by kernel_rfl) (fun _ _ _ h=>h) ?_ ?_;rotate_left
  ·intro w';go_simp;try with_reducible rfl
  simp only[Act.put,List.setIfInBounds_toArray]
  refine tkP (i:=1) (v:=?_) rfl (by kernel_rfl) (fun _ _ _ h=>h) ?_ ?_;rotate_left
  ·intro w';go_simp;try with_reducible rfl
  simp only[Act.put]
  refine tkP (i:=2) (v:=?_) rfl (by kernel_rfl) (fun _ _ _ h=>h) ?_ ?_;rotate_left
  ·intro w';go_simp;try with_reducible rfl
  simp only[Act.put]
  refine tkS (i:=3) [6,7,8,9] (v:=?_) rfl (by kernel_rfl) (by kernel_rfl) (fun _ _ _ h=>h) ?_ hh5 ?_;rotate_left
  ·intro w' hSw;obtain⟨y0,y1,y2⟩:=hSw;go_simp;try with_reducible rfl
  simp only[Act.put]
  refine tkP (i:=4) (v:=?_) rfl (by kernel_rfl) (fun _ _ _ h=>h) ?_ ?_;rotate_left
  ·intro w';go_simp;try with_reducible rfl
  simp only[Act.put]
  refine tkS (i:=5) [6,7,8,9] (v:=?_) rfl (by kernel_rfl) (by kernel_rfl) (fun _ _ _ h=>h) ?_ hh5 ?_;rotate_left
  ·intro w' hSw;obtain⟨y0,y1,y2⟩:=hSw;go_simp;try with_reducible rfl
  simp only[Act.put]
  refine tkP (i:=6) (v:=?_) rfl (by kernel_rfl) (fun _ _ _ h=>h) ?_ ?_;rotate_left
  ·intro w';go_simp;try with_reducible rfl
  simp only[Act.put]
  refine tkS (i:=7) [8,9] (v:=?_) rfl (by kernel_rfl) (by kernel_rfl) (fun _ _ _ h=>h) ?_ hh5 ?_;rotate_left
  ·intro w' hSw;obtain⟨y0,y1,y2⟩:=hSw;go_simp;try with_reducible rfl
  simp only[Act.put]
  refine tkP (i:=8) (v:=?_) rfl (by kernel_rfl) (fun _ _ _ h=>h) ?_ ?_;rotate_left
  ·intro w';go_simp;try with_reducible rfl
  simp only[Act.put]
  refine ba (i:=9) (o:=_) (by kernel_rfl) rfl (fun Kq hK=>?_);go_simp;refine hK.out _ _ (.inl (by decide)) ?_;clear hK Kq;try simp only[Act.put]
  refine bB (by kernel_rfl) ?_ _;go_wp2;refine bodyPost_ret (v:=cG ⟨4,(first:Int)+posR ms r,⟨#[]⟩⟩) (by simp[results,Tryz.results177,go_sem,r1,cG,posR_new HIN.out]) rfl ?_
  obtain⟨e1,e2⟩:=eW.out;rw[e1,e2,meetR_new HIN.out];have K6:=K5.trans (Kd.of hbd5);refine⟨rfl,((K6.setNew (by omega) _).setNew (by omega) _).setNew (by omega) _,_,_,(((M5.mono hbd5).set hR6 ⟨by decide,by decide⟩ _).set (ak hR6 _) ⟨by decide,by decide⟩ _).set (ak (ak hR6 _) _) ⟨by decide,by decide⟩ _⟩
end Go.Proofs.YtbjmgmmekmfjhaaGreatDoor
