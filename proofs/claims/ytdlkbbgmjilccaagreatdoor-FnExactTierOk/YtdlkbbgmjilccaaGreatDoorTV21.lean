/- TV21 -/
import Derived.Test.YtdlkbbgmjilccaaGreatDoorTV12
import Derived.Test.YtdlkbbgmjilccaaGreatDoorTV10
import Derived.Test.YtdlkbbgmjilccaaGreatDoorTV20
import Derived.Maps.AppendAt
set_option maxHeartbeats 32000000
set_option maxRecDepth 100000
namespace Go.Proofs.YtdlkbbgmjilccaaGreatDoor
open Go.RowKit
theorem info148:(Tryz.prog.info? 148).map (fun i=>(i.zero,i.size,i.bytes))=some (some (.slice none 0 0),1,24):=by kernel_rfl
def APost (ts:List ByteArray)(fs:List Fn)(base:Nat)(w':World)(e:Ending):Prop:=∃v c f a,e=.returned (.tuple #[v,.agg #[.int .i64 c,.int .i64 f,.int .i64 a]])/\VPost ts fs c f a/\(c=0->∃G,v=.slice (some ⟨G,0,none⟩) fs.length fs.length/\Hs w' base G fs.length fs)
theorem iAll_any(a1 a2:Option Addr)(c1 c2:Nat)(ts:List ByteArray)(fs:List Fn)(w:World)(hs:b9 ts fs)(hm:aT w 0 a1 ts)(hm2:FnsAt w 0 a2 fs) :
  Calls Tryz.prog 55 #[.agg #[.slice a1 ts.length c1,.slice a2 fs.length c2]] w fun e w'=>APost ts fs w.heap.size w' e/\Below w.heap.size w w':=by
 obtain⟨i0,hi,hz0,hz1,hz2⟩:=info_parts info148;have hn:=hs.funcs;have hbA:Below w.heap.size w ((w.alloc (.cells #[.slice a1 ts.length c1,.slice a2 fs.length c2] 42)).alloc (.cells #[.int .i64 0,.int .i64 0,.int .i64 0] 95)):=(gM.alloc nL _).alloc (by simp) _;have hM0:=al (ah w #[.slice a1 ts.length c1,.slice a2 fs.length c2] 42) (.cells #[.int .i64 0,.int .i64 0,.int .i64 0] 95);have hR0:=ah (w.alloc (.cells #[.slice a1 ts.length c1,.slice a2 fs.length c2] 42)) #[.int .i64 0,.int .i64 0,.int .i64 0] 95;rw[World.size_alloc] at hR0;go_enter Tryz.func55,Tryz.ntmps55
 go_wp2_with fail
 refine (iModuleOk_any _ _ ts fs _ _ _ hs (hm.mono hbA) (hm2.mono hbA)).mono ?_;rintro e w1 ⟨rfl,hb⟩;have hM1:=ab hM0 hb;have hR1:=ab hR0 hb;have hb1:Below w.heap.size w w1:=hbA.trans (hb.mono (by simp;omega));have y1:=aa hM1;have r1:=aa hR1;have r2:=am hR1;clear hbA hM0 hR0 hb;by_cases hok:modB ts fs=true
 ·have HO:Hid (modB ts fs=true):=hok;have FF:∀k (hk:k<fs.length),Fine fs fs[k].code:=fun k hk=>cy hok hk
  go_wp2_with (first | (at_make;refine wpList_make_full _ rfl _ _ 119 rfl w1.heap.size 148 i0 (.slice none 0 0) 1 Tryz.underlying119 hi hz0 hz1 _ _ _ _ fs.length rfl rfl rfl rfl (by rw[hz2];omega) (by unfold maxLen;omega) nL ?_;intro w2 hown hgrow;have hbm:Below w1.heap.size w1 w2:=gM.grown hgrow nL (by intro k hk;cases hk);have hM2:=ab hM1 hbm;have y2:=aa hM2))
  have hR2:=ab hR1 hbm;have hb2:=hb1.trans (hbm.mono hb1.size);obtain⟨cur0,hblk,hsz⟩:=aR hown;have hH0:Hs w2 w.heap.size w1.heap.size 0 fs:=⟨hb1.size,cur0,hblk,by omega,fun _ _ h=>absurd h (Nat.not_lt_zero _)⟩;clear hok r1 r2 y1 y2 hown hgrow hi hz0 hz1 hz2 hblk hsz hM1 hR1 hbm;have HZ1:Hid (w.heap.size<=w1.heap.size):=hb1.size;go_loopw [20] (fun i wr=>∃(k:Nat),k<=fs.length/\i=.int .i64 k/\Hid (∀q (hq:q<fs.length),q<k->fp fs fs[q].code fs[q].code.length)/\Hs wr w.heap.size w1.heap.size k fs/\wr.heap[w.heap.size]?=some (.cells #[.slice a1 ts.length c1,.slice a2 fs.length c2] 42 (0,0))/\wr.heap[w.heap.size+1]?=some (.cells #[.int .i64 0,.int .i64 0,.int .i64 0] 95 (0,0))/\Below w.heap.size w wr) (fun i _=>fs.length-(intOf i).toNat)
  case atStart=>exact⟨0,by omega,rfl,fun _ _ h=>absurd h (Nat.not_lt_zero _),hH0,hM2,hR2,hb2⟩
  case round=>
   obtain⟨k,hk,rfl,hcl,hHs,hM,hR,hb⟩:=hrel;obtain⟨wo,rfl⟩:∃wo,wo=wr:=⟨_,rfl⟩;clear hM2 hR2 hb2 hH0 hb1;by_cases hlt:k<fs.length
   ·have F:=FF k hlt;have hmost:=F.most;obtain⟨b,off,ca,cc,rfl,-,d1,d2,d3,d4⟩:=hm2 k hlt;have d1':=cell_later hb d1;have d2':=cell_later hb d2;have d3':=cell_later hb d3;clear d1 d2 d3;obtain⟨wx,hwx⟩:∃wx,wx=wo.alloc (.cells #[.int .i64 fs[k].params,.int .i64 fs[k].locals,.slice ca fs[k].code.length cc] 107):=⟨_,rfl⟩;have hkx:Below wo.heap.size wo wx:=by rw[hwx];exact gM.alloc nL _
    have hXx:wx.heap[wo.heap.size]?=some (.cells #[.int .i64 fs[k].params,.int .i64 fs[k].locals,.slice ca fs[k].code.length cc] 107 (0,0)):=by rw[hwx];exact ah _ _ _
    have hMx:=ab hM hkx;have hRx:=ab hR hkx;have hHx:=hHs.mono hkx;have hbx:Below w.heap.size w wx:=hb.trans (hkx.mono hb.size);have HWX:Hid (wx=wo.alloc (.cells #[.int .i64 fs[k].params,.int .i64 fs[k].locals,.slice ca fs[k].code.length cc] 107)):=hwx;have y0:=aa (al hM (.cells #[.int .i64 fs[k].params,.int .i64 fs[k].locals,.slice ca fs[k].code.length cc] 107));have z0:=aa (ah wo #[.int .i64 fs[k].params,.int .i64 fs[k].locals,.slice ca fs[k].code.length cc] 107);clear hwx hkx;go_wp2_with fail
    rw[<-HWX.out];refine (iHeights_any _ _ _ _ _ _ _ fs fs[k].code _ (hm2.mono hbx) (d4.mono hbx) F).mono ?_;rintro e w2 ⟨g,d,rfl,hg,hD,hH,k2⟩;have P:=hD.hts F;have hM2:=ab hMx k2;have hR2:=ab hRx k2;have hX2:=ab hXx k2;have hHs2:=hHx.mono k2;have hb2:Below w.heap.size w w2:=hbx.trans (k2.mono hbx.size);have hgw:w.heap.size<=g:=Nat.le_trans hbx.size hg;have hGk:=hHs2.put hlt hgw hD hH;obtain⟨vg,hvg⟩:=hHs2.cell hlt;have hfz:=hHs2.free k;have hne1:w.heap.size≠w1.heap.size:=by
     obtain⟨-,cur,h1,-⟩:=hHs2;intro e;rw[<-e,hM2] at h1;simp at h1
    have hne2:w.heap.size+1≠w1.heap.size:=by
     obtain⟨-,cur,h1,-⟩:=hHs2;intro e;rw[<-e,hR2] at h1;simp at h1
    have hne3:wo.heap.size≠w1.heap.size:=by
     obtain⟨-,cur,h1,-⟩:=hHs2;intro e;rw[<-e,hX2] at h1;simp at h1
    obtain⟨wy,hwy⟩:∃wy,wy=w2.setCell ⟨w1.heap.size,k,none⟩ (.slice (some ⟨g,0,none⟩) fs[k].code.length fs[k].code.length):=⟨_,rfl⟩;have hM3:wy.heap[w.heap.size]?=some (.cells #[.slice a1 ts.length c1,.slice (some ⟨b,off,none⟩) fs.length c2] 42 (0,0)):=by rw[hwy,Below.heap_setCell _ _ _ _ hne1];exact hM2
    have hR3:wy.heap[w.heap.size+1]?=some (.cells #[.int .i64 0,.int .i64 0,.int .i64 0] 95 (0,0)):=by rw[hwy,Below.heap_setCell _ _ _ _ hne2];exact hR2
    have hX3:wy.heap[wo.heap.size]?=some (.cells #[.int .i64 fs[k].params,.int .i64 fs[k].locals,.slice ca fs[k].code.length cc] 107 (0,0)):=by rw[hwy,Below.heap_setCell _ _ _ _ hne3];exact hX2
    have hH3:Ht wy g fs[k].code.length d:=by
     obtain⟨-,cur,h1,-⟩:=hHs2;rw[hwy];exact hH.other h1 _
    have hc3:wy.cell? ⟨w1.heap.size,k,none⟩=some (.slice (some ⟨g,0,none⟩) fs[k].code.length fs[k].code.length):=by
     obtain⟨-,cur,h1,h2,-⟩:=hHs2;rw[hwy,aa (ao h1 _)];exact az _ (by omega)
    have hb3:Below w.heap.size w wy:=by rw[hwy];exact hb2.setCell HZ1.out _
    rw[<-hwy] at hGk;have v2:=aa hX2;have v3:=aa hX3;clear hMx hRx hXx hbx k2 d1' d2' d3' hM hR hb y0 z0 hHs hHx hM2 hR2 hH hb2 hHs2 hne1 hne2;have HN3:Hid (wo.heap.size≠w1.heap.size):=hne3;clear hX2;go_wp2_with fail
    try rw[<-hwy]
    clear v2 v3 hvg hfz hwy hne3;go_loopw [35] (fun i ws=>∃(j:Nat),j<=fs[k].code.length/\i=.int .i64 j/\Hid (∀q,q<j->aI fs fs[k].code d q=0)/\Ht ws g fs[k].code.length d/\Hs ws w.heap.size w1.heap.size (k+1) fs/\ws.cell? ⟨w1.heap.size,k,none⟩=some (.slice (some ⟨g,0,none⟩) fs[k].code.length fs[k].code.length)/\ws.heap[w.heap.size]?=some (.cells #[.slice a1 ts.length c1,.slice (some ⟨b,off,none⟩) fs.length c2] 42 (0,0))/\ws.heap[w.heap.size+1]?=some (.cells #[.int .i64 0,.int .i64 0,.int .i64 0] 95 (0,0))/\ws.heap[wo.heap.size]?=some (.cells #[.int .i64 fs[k].params,.int .i64 fs[k].locals,.slice ca fs[k].code.length cc] 107 (0,0))/\Below w.heap.size w ws) (fun i _=>fs[k].code.length-(intOf i).toNat)
    case atStart=>exact⟨0,by omega,rfl,fun _ h=>absurd h (Nat.not_lt_zero _),hH3,hGk,hc3,hM3,hR3,hX3,hb3⟩
    case round=>
     obtain⟨j,hj,rfl,hno,hH4,hG4,hc4,hM4,hR4,hX4,hb4⟩:=hrel;obtain⟨ws,rfl⟩:∃ws,ws=wr:=⟨_,rfl⟩;clear hH3 hGk hc3 hM3 hR3 hX3 hb3;by_cases hlj:j<fs[k].code.length
     ·have hS:∀w',Below ws.heap.size ws w'->w'.cell? ⟨w.heap.size,0,none⟩=some (.slice a1 ts.length c1)/\w'.cell? ⟨w.heap.size,1,none⟩=some (.slice (some ⟨b,off,none⟩) fs.length c2)/\w'.cell? ⟨wo.heap.size,2,none⟩=some (.slice ca fs[k].code.length cc)/\w'.cell? ⟨w1.heap.size,k,none⟩=some (.slice (some ⟨g,0,none⟩) fs[k].code.length fs[k].code.length):=fun w' hb=>
       ⟨ckb hM4 hb rfl,ckb hM4 hb rfl,ckb hX4 hb rfl,cell_later hb hc4⟩
      have HS:Hid (∀w',Below ws.heap.size ws w'->w'.cell? ⟨w.heap.size,0,none⟩=some (.slice a1 ts.length c1)/\w'.cell? ⟨w.heap.size,1,none⟩=some (.slice (some ⟨b,off,none⟩) fs.length c2)/\w'.cell? ⟨wo.heap.size,2,none⟩=some (.slice ca fs[k].code.length cc)/\w'.cell? ⟨w1.heap.size,k,none⟩=some (.slice (some ⟨g,0,none⟩) fs[k].code.length fs[k].code.length)):=hS;obtain⟨j0,j1,j2,j3⟩:=hS ws gM;have q:Below ws.heap.size ws ws.drew:=gM.drew;have HB:Hid (Below w.heap.size w ws):=hb4;have HM:Hid (ws.heap[w.heap.size]?=some (.cells #[.slice a1 ts.length c1,.slice (some ⟨b,off,none⟩) fs.length c2] 42 (0,0))):=hM4;have HR:Hid (ws.heap[w.heap.size+1]?=some (.cells #[.int .i64 0,.int .i64 0,.int .i64 0] 95 (0,0))):=hR4;have HX:Hid (ws.heap[wo.heap.size]?=some (.cells #[.int .i64 fs[k].params,.int .i64 fs[k].locals,.slice ca fs[k].code.length cc] 107 (0,0))):=hX4;clear hS hb4 hM4 hR4 hX4 hc4;go_wp2
      go_region_held3 (fun w'=>w'.cell? ⟨w.heap.size,0,none⟩=some (.slice a1 ts.length c1)/\w'.cell? ⟨w.heap.size,1,none⟩=some (.slice (some ⟨b,off,none⟩) fs.length c2)/\w'.cell? ⟨wo.heap.size,2,none⟩=some (.slice ca fs[k].code.length cc)/\w'.cell? ⟨w1.heap.size,k,none⟩=some (.slice (some ⟨g,0,none⟩) fs[k].code.length fs[k].code.length))
       (first | exact⟨j0,j1,j2,j3⟩ | exact HS.out _ q)
       (first
        | (go_at_call 102;refine (trouble_any _ _ _ _ _ _ _ fs fs[k].code d g _ j _ (by exact hm2.mono (HB.out.trans (q.mono HB.out.size))) (by exact d4.mono (HB.out.trans (q.mono HB.out.size))) F P (by exact hH4.mono q) hlj).mono ?_;rintro e w5 ⟨rfl,kd⟩;have q:=q.trans (kd.mono q.size)))
      have hM5:=ab HM.out q;have hR5:=ab HR.out q;have hX5:=ab HX.out q;have hH5:=hH4.mono q;have hG5:=hG4.mono q;have hb5:Below w.heap.size w w5:=HB.out.trans (q.mono HB.out.size);have hc5:=(HS.out _ q).2.2.2;clear HM HR HX HB HS j0 j1 j2 j3 hH4 hG4 kd q;by_cases hz:aI fs fs[k].code d j=0
      ·have HZ:Hid (aI fs fs[k].code d j=0):=hz;go_wp2;go_roundw
       case rel=>exact⟨j+1,by omega,by go_num,fun q hq=>(by
        by_cases e:q=j
        ·subst e;exact HZ.out
        ·exact hno.out q (by omega)),hH5,hG5,hc5,hM5,hR5,hX5,hb5⟩
       case measure=>simp[intOf];omega
      ·have HZ:Hid (¬aI fs fs[k].code d j=0):=hz;have bz:(aI fs fs[k].code d j != 0)=true:=by simpa using hz
       have r4:=aa hR5;have q4:=am hR5;clear hz;go_wp2;have rr:=aa (bB (x:=(aI fs fs[k].code d j)) (y:=(k:Int)) (z:=(j:Int)) hR5);refine bodyPost_ret (v:=.tuple #[.slice none 0 0,.agg #[.int .i64 (aI fs fs[k].code d j),.int .i64 (k:Int),.int .i64 (j:Int)]]) (by simp[results,Tryz.results55,go_sem,rr]) rfl ⟨⟨_,(aI fs fs[k].code d j),(k:Int),(j:Int),rfl,.inr ⟨HO.out,.inr ⟨k,hlt,j,d,rfl,rfl,hlj,hD,rfl,HZ.out,cn hD hno.out,hcl.out⟩⟩,fun h=>absurd h HZ.out⟩,?_⟩;exact ((hb5.setCell (by simp) _).setCell (by simp) _).setCell (by simp) _
     ·have hjn:j=fs[k].code.length:=by omega
      subst hjn;go_wp2;go_roundw
      case rel=>exact⟨k+1,by omega,by go_num,fun q hq hqk=>(by
        by_cases e:q=k
        ·subst e;exact cn hD hno.out
        ·exact hcl.out q hq (by omega)),hG4,hM4,hR4,hb4⟩
      case measure=>simp[intOf];omega
   ·have hkn:k=fs.length:=by omega
    subst hkn;have r4:=aa hR;have q4:=am hR;go_wp2;have rr:=aa (bB (x:=0) (y:=0) (z:=0) hR);have hbz:Below (w.heap.size+2) wo (((wo.setCell ⟨w.heap.size+1,0,none⟩ (.int .i64 0)).setCell ⟨w.heap.size+1,1,none⟩ (.int .i64 0)).setCell ⟨w.heap.size+1,2,none⟩ (.int .i64 0))->True:=fun _=>trivial
    clear hbz;refine bodyPost_ret (v:=.tuple #[.slice (some ⟨w1.heap.size,0,none⟩) fs.length fs.length,.agg #[.int .i64 0,.int .i64 0,.int .i64 0]]) (by simp[results,Tryz.results55,go_sem,rr]) rfl ⟨⟨_,0,0,0,rfl,.inr ⟨HO.out,.inl ⟨rfl,rfl,rfl,fun q hq=>hcl.out q hq (by omega)⟩⟩,fun _=>⟨_,rfl,?_⟩⟩,?_⟩
    ·exact hHs.three hR
    ·exact ((hb.setCell (by simp) _).setCell (by simp) _).setCell (by simp) _
 ·have hok':modB ts fs=false:=by simpa using hok
  have HO:Hid (modB ts fs=false):=hok';clear hok;go_wp2;have rr:=aa (bB (x:=1) (y:=0) (z:=0) hR1);refine bodyPost_ret (v:=.tuple #[.slice none 0 0,.agg #[.int .i64 1,.int .i64 0,.int .i64 0]]) (by simp[results,Tryz.results55,go_sem,rr]) rfl ⟨⟨_,1,0,0,rfl,.inl ⟨HO.out,rfl,rfl,rfl⟩,fun h=>absurd h (by decide)⟩,?_⟩;exact ((hb1.setCell (by simp) _).setCell (by simp) _).setCell (by simp) _
theorem iVerify_any(a1 a2:Option Addr)(c1 c2:Nat)(ts:List ByteArray)(fs:List Fn)(w:World)(hs:b9 ts fs)(hm:aT w 0 a1 ts)(hm2:FnsAt w 0 a2 fs) :
  Calls Tryz.prog 60 #[.agg #[.slice a1 ts.length c1,.slice a2 fs.length c2]] w fun e w'=>∃c f a,e=.returned (.agg #[.int .i64 c,.int .i64 f,.int .i64 a])/\VPost ts fs c f a/\Below w.heap.size w w':=by
 have hbA:Below w.heap.size w ((w.alloc (.cells #[.slice a1 ts.length c1,.slice a2 fs.length c2] 42)).alloc (.cells #[.int .i64 0,.int .i64 0,.int .i64 0] 95)):=(gM.alloc nL _).alloc (by simp) _;have hR0:=ah (w.alloc (.cells #[.slice a1 ts.length c1,.slice a2 fs.length c2] 42)) #[.int .i64 0,.int .i64 0,.int .i64 0] 95;rw[World.size_alloc] at hR0;go_enter Tryz.func60,Tryz.ntmps60
 go_wp2_with fail
 refine (iAll_any _ _ _ _ ts fs _ hs (hm.mono hbA) (hm2.mono hbA)).mono ?_;rintro e w1 ⟨⟨v,c,f,a,rfl,hV,-⟩,hb⟩;have hR1:=ab hR0 hb;have hB1:=hbA.trans (hb.mono hbA.size);have hR2:=al hR1 (.cells #[.int .i64 c,.int .i64 f,.int .i64 a] 95);have r1:=aa hR2;have r2:=am hR2;clear hbA hR0 hb;go_wp2;have rr:=aa (bB (x:=c) (y:=f) (z:=a) hR2);refine bodyPost_ret (v:=.agg #[.int .i64 c,.int .i64 f,.int .i64 a]) (by simp[results,Tryz.results60,go_sem,rr]) rfl ⟨c,f,a,rfl,hV,?_⟩;exact (((hB1.alloc hB1.size _).setCell (by simp) _).setCell (by simp) _).setCell (by simp) _
def Good (ts:List ByteArray)(fs:List Fn):Prop:=∃f a,VPost ts fs 0 f a
theorem VPost.good{ts:List ByteArray}{fs:List Fn}{c f a:Int}(h:VPost ts fs c f a):c=0↔Good ts fs:=
 ⟨fun e=>by subst e;exact⟨f,a,h⟩,fun ⟨f',a',h'⟩=>(h.one h').1⟩
theorem szModule_le(a a2:Option Addr)(ts:List ByteArray)(fs:List Fn)(cap cap2:Nat)(w:World)(hn:ts.length<=maxLen)(hc:∀s∈ts,s.size<=maxLen)(hm:aT w 0 a ts)
  (hn2:fs.length<=maxLen)(hc2:∀f∈fs,f.code.length<=maxLen)(hm2:FnsAt w 0 a2 fs) :
  Calls Tryz.prog 4 #[.agg #[.slice a ts.length cap,.slice a2 fs.length cap2],.int .i64 1048576] w fun e w'=>∃r:Int,e=.returned (.int .i64 r)/\r<=1048576/\(0<=r->b9 ts fs)/\Below w.heap.size w w':=by
 go_enter Tryz.func4,Tryz.ntmps4
 go_wp2_with fail
 refine (szStringS_any a ts cap 1048576 _ (by omega) (by omega) hn hc (hm.mono (gM.alloc nL _))).mono ?_;rintro e w1 ⟨r,rfl,hr,hs,hb⟩;have hb1:Below w.heap.size w w1:=(gM.alloc nL _).trans (hb.mono (by simp));obtain⟨hx,hf⟩:w1.cell? ⟨w.heap.size,0,none⟩=some (.slice a ts.length cap)/\w1.cell? ⟨w.heap.size,1,none⟩=some (.slice a2 fs.length cap2):=by
  constructor
  ·exact cell_later hb (eg _ _ _ 0)
  ·exact cell_later hb (eg _ _ _ 1)
 by_cases h0:r<0
 ·go_wp2_with fail
  go_ret
  exact⟨_,rfl,by omega,by omega,hb1⟩
 ·go_wp2_with fail
  refine (szFuncS_any a2 fs cap2 r _ (by omega) (by omega) hn2 hc2 (hm2.mono hb1)).mono ?_;rintro e w2 ⟨r2,rfl,hr2,hs2,hb2⟩;have hb3:Below w.heap.size w w2:=hb1.trans (hb2.mono hb1.size);by_cases h2:r2<0
  ·go_wp2_with fail
   go_ret
   exact⟨_,rfl,by omega,by omega,hb3⟩
  ·go_wp2_with fail
   go_ret
   exact⟨_,rfl,by omega,fun _=>⟨(hs (by omega)).1,(hs (by omega)).2,(hs2 (by omega)).1,(hs2 (by omega)).2⟩,hb3⟩
theorem sGood_any(a1 a2:Option Addr)(c1 c2:Nat)(ts:List ByteArray)(fs:List Fn)(w:World)(hs:b9 ts fs)(hst:aT w 0 a1 ts)(hfn:FnsAt w 0 a2 fs) :
  Calls Tryz.prog 18 #[.agg #[.slice a1 ts.length c1,.slice a2 fs.length c2]] w fun e w'=>e=.returned (.bool (pB (Good ts fs)))/\Below w.heap.size w w':=by
 have hbA:Below w.heap.size w (w.alloc (.cells #[.slice a1 ts.length c1,.slice a2 fs.length c2] 42)):=gM.alloc nL _;go_enter Tryz.func18,Tryz.ntmps18
 go_wp2_with fail
 refine (sVerify_any _ _ _ _ ts fs _ hs (hst.mono hbA) (hfn.mono hbA)).mono ?_;rintro e w1 ⟨c,f,a,rfl,hV,hb⟩;have HG:Hid (c=0↔Good ts fs):=hV.good;clear hV;have hfld:(Instr.field 95 (.agg #[.int .i64 c,.int .i64 f,.int .i64 a]) 0).run Tryz.prog w1=.ok (.int .i64 c) w1:=by kernel_rfl
 go_wp2;go_ret
 refine⟨aj ?_,hbA.trans (hb.mono hbA.size)⟩;by_cases h:Good ts fs
 ·rw[ay h,HG.out.2 h];rfl
 ·rw[aw h];simpa using fun e=>h (HG.out.1 e)
theorem iProfileOk_any(a1 a2:Option Addr)(c1 c2:Nat)(ts:List ByteArray)(fs:List Fn)(a:Option Addr)(cap:Nat)(ss:List Si)(w:World)(hs:b9 ts fs)(hst:aT w 0 a1 ts)(hfn:FnsAt w 0 a2 fs)(hss:aS w 0 a ss) :
  Calls Tryz.prog 27 #[.agg #[.slice a1 ts.length c1,.slice a2 fs.length c2],.slice a ss.length cap] w fun e w'=>e=.returned (.bool (pB (Good ts fs/\ek fs ss)))/\Below w.heap.size w w':=by
 have hbA:Below w.heap.size w (w.alloc (.cells #[.slice a1 ts.length c1,.slice a2 fs.length c2] 42)):=gM.alloc nL _;have hM0:=ah w #[.slice a1 ts.length c1,.slice a2 fs.length c2] 42;by_cases h150:ss.length<=150
 case neg=>
  have h150':¬(ss.length:Int)<=150:=by omega
  rw[aw (fun h=>h150 h.2.1)];go_enter Tryz.func27,Tryz.ntmps27
  go_wp2;go_ret
  exact⟨rfl,hbA⟩
 have h150':(ss.length:Int)<=150:=by omega
 go_enter Tryz.func27,Tryz.ntmps27
 go_wp2_with fail
 refine (iVerify_any _ _ _ _ ts fs _ hs (hst.mono hbA) (hfn.mono hbA)).mono ?_;rintro e w1 ⟨c,f,g,rfl,hV,hb1⟩;have hG:=hV.good;have hM1:=ab hM0 hb1;have hB1:=hbA.trans (hb1.mono hbA.size);clear hV hM0 hbA hb1 h150';have hfld:(Instr.field 95 (.agg #[.int .i64 c,.int .i64 f,.int .i64 g]) 0).run Tryz.prog w1=.ok (.int .i64 c) w1:=by kernel_rfl
 by_cases hc0:c=0
 case neg=>
  have HG:Hid (¬Good ts fs):=fun h=>hc0 (hG.2 h)
  clear hG;go_wp2;go_ret
  exact⟨aj (aw (fun h=>HG.out h.1)).symm,hB1⟩
 subst hc0;have HG:Hid (Good ts fs):=hG.1 rfl;clear hG;have m1:=aa hM1;go_wp2_with fail
 refine (sitesOk_any a1 a2 _ _ _ fs a cap ss w1 h150 hs.code (hfn.mono hB1) (hss.mono hB1)).mono ?_;rintro e w2 ⟨he,hb2⟩;have HB2:Hid (Below w.heap.size w w2):=hB1.trans (hb2.mono hB1.size);clear hM1 m1 hb2 hB1 hfld;by_cases hP:Prof fs ss
 ·rw[ay hP] at he;subst he;go_wp2;go_ret
  exact⟨aj (ay ⟨HG.out,h150,hP⟩).symm,HB2.out⟩
 ·rw[aw hP] at he;subst he;go_wp2;go_ret
  exact⟨aj (aw (fun h=>hP h.2.2)).symm,HB2.out⟩
def LP (code:List (Int×Int))(d:List Int):Nat->Nat->Prop
 | 0,j=>j=0
 | k+1,j=>LP code d k j\/(isJ code d k/\((j:Int)=(code.getD k (0,0)).2\/((code.getD k (0,0)).1≠17/\j=k+1)))
def HP (code:List (Int×Int))(d:List Int):Nat->Nat->Prop
 | 0,_=>False
 | k+1,j=>HP code d k j\/(isJ code d k/\(code.getD k (0,0)).2<=k/\(j:Int)=(code.getD k (0,0)).2)
structure GJ (code:List (Int×Int))(d:List Int):Prop where
 one:1<=code.length
 most:code.length<=120
 jump:∀k,k<code.length->isJ code d k->0<=(code.getD k (0,0)).2/\(code.getD k (0,0)).2<code.length/\((code.getD k (0,0)).1≠17->k+1<code.length)
theorem LP.lt{code:List (Int×Int)}{d:List Int}(G:GJ code d){k j:Nat}(hk:k<=code.length)(h:LP code d k j):j<code.length:=by
 induction k with
 | zero=>have:=G.one;have h':j=0:=h;omega
 | succ k ih=>
  rcases h with h | ⟨h1,h2⟩
  ·exact ih (by omega) h
  ·have:=G.jump k (by omega) h1;rcases h2 with h2 | ⟨h2,h3⟩
   ·omega
   ·have:=this.2.2 h2;omega
theorem HP.lt{code:List (Int×Int)}{d:List Int}(G:GJ code d){k j:Nat}(hk:k<=code.length)(h:HP code d k j):j<code.length:=by
 induction k with
 | zero=>exact h.elim
 | succ k ih=>
  rcases h with h | ⟨h1,h2,h3⟩
  ·exact ih (by omega) h
  ·have:=G.jump k (by omega) h1;omega
theorem fstep_lo{st:(Nat×Nat)×(Nat×Nat)}{x:Jp}{j:Nat}(hj:j<128):bhas (cY st x).1 j=true↔bhas st.1 j=true\/j=x.a\/(x.op≠17/\j=x.at'+1):=by
 unfold cY;dsimp only
 have h1:=x.h1;have h2:=x.h2;by_cases h:x.op=17
 ·rw[if_pos h,dO h2 hj,Bool.or_eq_true,decide_eq_true_eq];constructor
  ·rintro (h | h)
   ·exact .inl h
   ·exact .inr (.inl h.symm)
  ·rintro (h' | h' | ⟨h',-⟩)
   ·exact .inl h'
   ·exact .inr h'.symm
   ·exact absurd h h'
 ·rw[if_neg h,dO h1 hj,dO h2 hj,Bool.or_eq_true,Bool.or_eq_true,decide_eq_true_eq,decide_eq_true_eq];constructor
  ·rintro ((h' | h') | h')
   ·exact .inl h'
   ·exact .inr (.inl h'.symm)
   ·exact .inr (.inr ⟨h,h'.symm⟩)
  ·rintro (h' | h' | ⟨-,h'⟩)
   ·exact .inl (.inl h')
   ·exact .inl (.inr h'.symm)
   ·exact .inr h'.symm
theorem fstep_hi{st:(Nat×Nat)×(Nat×Nat)}{x:Jp}{j:Nat}(hj:j<128):bhas (cY st x).2 j=true↔bhas st.2 j=true\/(x.a<=x.at'/\j=x.a):=by
 unfold cY;dsimp only
 have h2:=x.h2;by_cases h:x.a<=x.at'
 ·rw[if_pos h,dO h2 hj,Bool.or_eq_true,decide_eq_true_eq];constructor
  ·rintro (h' | h')
   ·exact .inl h'
   ·exact .inr ⟨h,h'.symm⟩
  ·rintro (h' | ⟨-,h'⟩)
   ·exact .inl h'
   ·exact .inr h'.symm
 ·rw[if_neg h];constructor
  ·exact .inl
  ·rintro (h' | ⟨h',-⟩)
   ·exact h'
   ·exact absurd h' h
theorem eQ{code:List (Int×Int)}{k:Nat}(hk:k<code.length):code.getD k (0,0)=code[k]:=by rw[List.getD_eq_getElem?_getD,List.getElem?_eq_getElem hk];rfl
theorem flow_bits{code:List (Int×Int)}{d:List Int}(HJ:JOk code){k:Nat}(hk:k<=code.length):∀j,j<128->(bhas (flowB (jl code d k)).1 j=true↔LP code d k j)/\(bhas (flowB (jl code d k)).2 j=true↔HP code d k j):=by
 induction k with
 | zero=>
  intro j hj;refine⟨?_,?_⟩
  ·show bhas (1,0) j=true↔j=0
   have:=dO (s:=(0,0)) (k:=0) (j:=j) (by decide) hj;rw[show bw (0,0) 0=(1,0) from rfl,bhas_zero,Bool.false_or] at this
   rw[this,decide_eq_true_eq];exact eq_comm
  ·show bhas (0,0) j=true↔False
   rw[bhas_zero];simp
 | succ k ih=>
  intro j hj;obtain⟨i1,i2⟩:=ih (by omega) j hj;by_cases h:isJ code d k
  ·obtain⟨x,hx1,hx2,hx3,hx4⟩:=jl_yes HJ (by omega) h;rw[hx4,flowB_snoc];have e:=eQ (code:=code) (k:=k) (by omega);refine⟨?_,?_⟩
   ·rw[fstep_lo hj,i1];show _↔LP code d k j\/(isJ code d k/\((j:Int)=(code.getD k (0,0)).2\/((code.getD k (0,0)).1≠17/\j=k+1)))
    rw[e,<-hx2,<-hx3,hx1];constructor
    ·rintro (h' | h' | h')
     ·exact .inl h'
     ·exact .inr ⟨h,.inl (by omega)⟩
     ·exact .inr ⟨h,.inr h'⟩
    ·rintro (h' | ⟨-,h' | h'⟩)
     ·exact .inl h'
     ·exact .inr (.inl (by omega))
     ·exact .inr (.inr h')
   ·rw[fstep_hi hj,i2];show _↔HP code d k j\/(isJ code d k/\(code.getD k (0,0)).2<=k/\(j:Int)=(code.getD k (0,0)).2)
    rw[e,<-hx3,hx1];constructor
    ·rintro (h' | h')
     ·exact .inl h'
     ·exact .inr ⟨h,by omega,by omega⟩
    ·rintro (h' | ⟨-,h1,h2⟩)
     ·exact .inl h'
     ·exact .inr ⟨by omega,by omega⟩
  ·rw[jl_no h,i1,i2];exact⟨⟨.inl,fun h'=>h'.elim id (fun h'=>absurd h'.1 h)⟩,⟨.inl,fun h'=>h'.elim id (fun h'=>absurd h'.1 h)⟩⟩
noncomputable def lst (P:Nat->Prop) (n:Nat):List Nat:=(List.range n).filter fun j=>pB (P j)
noncomputable def lstI (P:Nat->Prop) (n:Nat):List Int:=(lst P n).map fun (j:Nat)=>(j:Int)
theorem dS{P:Nat->Prop}{k:Nat}(h:P k):lst P (k+1)=lst P k++[k]:=by simp[lst,List.range_succ,ay h]
theorem fo{P:Nat->Prop}{k:Nat}(h:¬P k):lst P (k+1)=lst P k:=by simp[lst,List.range_succ,aw h]
theorem lstI_yes{P:Nat->Prop}{k:Nat}(h:P k):lstI P (k+1)=lstI P k++[(k:Int)]:=by simp[lstI,dS h]
theorem lstI_no{P:Nat->Prop}{k:Nat}(h:¬P k):lstI P (k+1)=lstI P k:=by simp[lstI,fo h]
theorem et(P:Nat->Prop)(n:Nat):(lst P n).length<=n:=by
 have:=List.length_filter_le (fun j=>pB (P j)) (List.range n);simpa[lst] using this
theorem ei(P:Nat->Prop)(n:Nat):(lstI P n).length<=n:=by simpa[lstI] using et P n
theorem fD{P:Nat->Prop}{n j:Nat}:j∈lst P n↔j<n/\P j:=by
 unfold lst;rw[List.mem_filter,List.mem_range];constructor
 ·rintro⟨h1,h2⟩;refine⟨h1,?_⟩;by_cases h:P j
  ·exact h
  ·rw[aw h] at h2;cases h2
 ·rintro⟨h1,h2⟩;exact⟨h1,ay h2⟩
theorem gj_of{ts:List ByteArray}{fs:List Fn}(hG:Good ts fs){f:Nat}(hf:f<fs.length){d:List Int}(hD:Done fs fs[f].code d):GJ fs[f].code d/\JOk fs[f].code/\modB ts fs=true:=by
 obtain⟨f',a',hV⟩:=hG;rcases hV with ⟨-,h,-⟩ | ⟨hm,hT⟩
 ·cases h
 have F:=cy hm hf;have hc:fp fs fs[f].code fs[f].code.length:=by
  rcases hT with ⟨-,-,-,h⟩ | ⟨g,hg,k,d',-,-,-,-,-,h,-⟩
  ·exact h f hf
  ·exact absurd rfl h
 refine⟨⟨F.one,F.most,fun k hk hj=>?_⟩,⟨F.most,fun k hk hj=>?_⟩,hm⟩
 ·have e:=eQ (code:=fs[f].code) hk;have H:=hD.hts F;obtain⟨h1,h2⟩:=hj;rw[e] at h2 ⊢;have hjp:=F.jump k hk h2;refine⟨hjp.1,hjp.2,fun h17=>?_⟩;have ht:=hc d hD k hk;unfold aI at ht;simp only[e] at ht
  have hdk:¬d.getD k (-1)<0:=by
   rw[H.get hk] at h1 ⊢;have:=H.low k (by rw[H.len];exact hk);omega
  rw[if_neg hdk] at ht;split at ht
  ·cases ht
  split at ht
  ·cases ht
  rename_i hno
  simp only[List.any_eq_true,not_exists,not_and,decide_eq_true_eq] at hno
  have:=hno ((k:Int)+1) (by unfold nextB;rw[if_neg (by omega),if_neg h17,if_pos (by omega)];simp);omega
 ·have e:=eQ (code:=fs[f].code) hk;rw[e] at hj ⊢;have:=F.jump k hk hj;have:=F.most;omega
theorem infoB:(Tryz.prog.info? 4).map (fun i=>(i.zero,i.size,i.bytes))=some (some (.bool false),1,1):=by kernel_rfl
def MkP (w:World)(g n:Nat)(P:Nat->Prop):Prop:=∃c:Array Value,w.heap[g]?=some (.cells c 4 (0,0))/\c.size=n/\∀j,j<n->c[j]?=some (.bool (pB (P j)))
theorem MkP.mono{w w':World}{g n:Nat}{P:Nat->Prop}(h:MkP w g n P)(hb:Below w.heap.size w w'):MkP w' g n P:=by
 obtain⟨c,h1,h2,h3⟩:=h;exact⟨c,ab h1 hb,h2,h3⟩
theorem MkP.cell{w:World}{g n j:Nat}{P:Nat->Prop}(h:MkP w g n P)(hj:j<n):w.cell? ⟨g,j,none⟩=some (.bool (pB (P j))):=by
 obtain⟨c,h1,h2,h3⟩:=h;rw[aa h1];exact h3 j hj
theorem MkP.free{w:World}{g n:Nat}{P:Nat->Prop}(h:MkP w g n P)(j:Nat):w.frozen? ⟨g,j,none⟩=false:=by
 obtain⟨c,h1,-⟩:=h;exact am h1 j
theorem MkP.as{w:World}{g n:Nat}{P Q:Nat->Prop}(h:MkP w g n P)(hq:∀j,j<n->(P j↔Q j)):MkP w g n Q:=by
 obtain⟨c,h1,h2,h3⟩:=h;exact⟨c,h1,h2,fun j hj=>by rw[h3 j hj];simp only[show P j=Q j from propext (hq j hj)]⟩
theorem MkP.set{w:World}{g n i:Nat}{P:Nat->Prop}(h:MkP w g n P)(hi:i<n):MkP (w.setCell ⟨g,i,none⟩ (.bool true)) g n (fun j=>P j\/j=i):=by
 obtain⟨c,h1,h2,h3⟩:=h;refine⟨_,ao h1 _,by simpa using h2,fun j hj=>?_⟩;by_cases e:j=i
 ·subst e;rw[az _ (by omega),ay (.inr rfl)]
 ·rw[ac _ e,h3 j hj];simp only[show (P j\/j=i)=P j from propext ⟨fun h=>h.elim id (fun h=>absurd h e),.inl⟩]
theorem eD{w:World}{B:Nat}{v:Value}{n:Nat}{d:List Int}(h:w.ownsRow B 3 1 v n (d.map (Value.int .i64)))(hn:n=d.length):DSl w B v d:=by
 by_cases h0:0<n
 ·obtain⟨g,cap,hv,hg,hH⟩:=Ht.own h rfl hn h0;exact .inr ⟨g,cap,by rw[hv,hn],hg,hH⟩
 ·have hd:d=[]:=List.eq_nil_of_length_eq_zero (by omega);rcases h.2 with ⟨hv,-⟩ | ⟨g,cap,cur,hv,-⟩
  ·exact .inl ⟨hd,_,_,by rw[hv]⟩
  ·exact .inl ⟨hd,_,_,by rw[hv,show n=0 by omega]⟩
theorem sMark_any(g n:Nat)(P:Nat->Prop)(w:World)(hn:n<=120)(hM:MkP w g n P) :
  Calls Tryz.prog 172 #[.slice (some ⟨g,0,none⟩) n n] w fun e w'=>∃v,e=.returned v/\DSl w' w.heap.size v (lstI P n)/\Below w.heap.size w w':=by
 obtain⟨i0,hi,hz0,hz1,hz2⟩:=info_parts info3;have hE0:(w.alloc (.cells #[] 3)).ownsRow w.heap.size 3 1 (.slice (some ⟨w.heap.size,0,none⟩) 0 0) 0 []:=by
  have:=World.ownsRow_made (base:=w.heap.size) (e:=3) (size:=1) w #[] 0 nL (by unfold maxLen;omega) rfl;simpa using this
 go_enter Tryz.func172,Tryz.ntmps172
 go_wp2;go_loopw [3,4] (fun o i wr=>∃(k:Nat),k<=n/\i=.int .i64 k/\wr.ownsRow w.heap.size 3 1 o (lstI P k).length ((lstI P k).map (Value.int .i64))/\Below w.heap.size w wr) (fun _ i _=>n-(intOf i).toNat)
 case atStart=>exact⟨0,by omega,rfl,hE0,gM.alloc nL _⟩
 case round=>
  obtain⟨k,hk,rfl,hown,hb⟩:=hrel;clear hE0;by_cases hlt:k<n
  ·have hcl:=(hM.mono hb).cell hlt;have hln:=ei P k;by_cases hp:P k
   ·rw[ay hp] at hcl;have HY:Hid (lstI P (k+1)=lstI P k++[(k:Int)]):=lstI_yes hp;have hszr:=hb.size;go_wp2_with (first | (at_builtin;refine wpList_append_lies _ rfl _ _ 148 rfl w.heap.size 3 i0 (.int .i64 0) 1 8 Tryz.underlying148 hi hz0 hz1 hz2 rfl (by decide) _ _ _ rfl (World.ownsRow.alloc hown _) ⟨wr.heap.size,0,none⟩ 1 1 [.int .i64 (k:Int)] rfl rfl (cell_one_new _ _ _) (by intro u hu;simp at hu;subst hu;rfl) (by decide) (by unfold maxLen;omega) (by omega) (by simp;omega) _ rfl ?_;intro g1 cap w1 hown1 hgrow1 hat1 hlt1))
    have hk1:=dQ.grown (ts:=[3]) (World.ownsRow.alloc hown _) hgrow1 (by simp);have hb1:Below w.heap.size w w1:=(hb.alloc hb.size _).trans (hk1.toBelow (by simp;omega));go_roundw
    case rel=>exact⟨k+1,by omega,by go_num,by rw[HY.out];simpa using hown1,hb1⟩
    case measure=>simp[intOf];omega
   ·rw[aw hp] at hcl;have HY:Hid (lstI P (k+1)=lstI P k):=lstI_no hp;go_wp2;go_roundw
    case rel=>exact⟨k+1,by omega,by go_num,by rw[HY.out];exact hown,hb⟩
    case measure=>simp[intOf];omega
  ·have hkn:k=n:=by omega
   subst hkn;have hds:=eD hown rfl;obtain⟨a,cap,rfl,-⟩:=hds.form;go_wp2;go_ret
   exact⟨_,rfl,hds,hb⟩
end Go.Proofs.YtdlkbbgmjilccaaGreatDoor
