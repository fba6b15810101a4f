/- TV24 -/
import Derived.Test.YtdlkbbgmjilccaaGreatDoorTV19
import Derived.Test.YtdlkbbgmjilccaaGreatDoorTV21
import Derived.Test.YtdlkbbgmjilccaaGreatDoorRows
import Derived.JoinedOf
import Derived.KernelRfl
set_option maxHeartbeats 32000000
set_option maxRecDepth 100000
namespace Go.Proofs.YtdlkbbgmjilccaaGreatDoor
open Go.RowKit
theorem ct(k n:Int)(s:ByteArray)(w:World) :
  Calls Tryz.prog 73 #[.agg #[.int .i64 k,.int .i64 n,.string s],.agg #[.int .i64 k,.int .i64 n,.string s]] w fun e w'=>e=.returned (.bool true)/\Below w.heap.size w w':=by
 go_enter Tryz.func73,Tryz.ntmps73
 go_wp2;go_ret
 exact⟨rfl,(gM.alloc nL _).alloc (by simp) _⟩
theorem dc(a:Option Addr)(vs:List Vl)(cap:Nat)(left:Int)(w:World)(h0:0<=left)(h1:left<=1048576)(hx:bs vs)(hm:aO w 0 a vs) :
  Calls Tryz.prog 125 #[.slice a vs.length cap,.int .i64 left] w fun e w'=>∃r:Int,e=.returned (.int .i64 r)/\r<=left/\(0<=r->aK vs)/\Below w.heap.size w w':=by
 obtain⟨hn,hc⟩:=hx;have hn':=hn;unfold maxLen at hn;by_cases h:left<vs.length
 ·go_enter Tryz.func125,Tryz.ntmps125
  go_wp2;go_ret
  exact⟨-1,rfl,by omega,by omega,Below.refl _ _⟩
 ·go_enter Tryz.func125,Tryz.ntmps125
  go_wp2;go_loopw [1,5] (fun l i wr=>∃(k:Nat) (q:Int),k<=vs.length/\i=.int .i64 k/\l=.int .i64 q/\0<=q/\q<=left-vs.length/\(∀f∈vs.take k,f.s.size<=1048576)/\Below w.heap.size w wr) (fun _ i _=>vs.length-(intOf i).toNat)
  case atStart=>exact⟨0,_,by omega,rfl,rfl,by omega,by omega,by simp,Below.refl _ _⟩
  case round=>
   obtain⟨k,q,hk,rfl,rfl,hq0,hq1,hall,hb⟩:=hrel;by_cases hlt:k<vs.length
   ·obtain⟨b,off,rfl,-,c1,c2,c3⟩:=hm k hlt;have c1':=cell_later hb c1;have c2':=cell_later hb c2;have c3':=cell_later hb c3;clear c1 c2 c3;have hck:=hc vs[k] (n_l hlt);by_cases hs:q<vs[k].s.size
    ·go_wp2_with (go_at_call 40;refine (cW _ _ _ _ _ hq0 (by omega) hck).mono ?_;rintro e w' ⟨rfl,hb'⟩)
     go_ret
     exact⟨_,rfl,by omega,by omega,hb.trans (hb'.mono hb.size)⟩
    ·go_wp2_with (go_at_call 40;refine (cW _ _ _ _ _ hq0 (by omega) hck).mono ?_;rintro e w' ⟨rfl,hb'⟩)
     go_roundw
     case rel=>exact⟨k+1,q-vs[k].s.size,by omega,by go_num,by rw[if_neg (by omega)],by omega,by omega,aP hlt hall (by omega),hb.trans (hb'.mono hb.size)⟩
     case measure=>simp[intOf];omega
   ·go_wp2;go_ret
    exact⟨q,rfl,by omega,fun _=>⟨by omega,by rwa [List.take_of_length_le (by omega)] at hall⟩,hb⟩
theorem szRec_any(a:Option Addr)(vs:List Vl)(cap:Nat)(left:Int)(w:World)(h0:0<=left)(h1:left<=1048576)(hx:bs vs)(hm:aO w 0 a vs) :
  Calls Tryz.prog 79 #[.agg #[.slice a vs.length cap],.int .i64 left] w fun e w'=>∃r:Int,e=.returned (.int .i64 r)/\r<=left/\(0<=r->aK vs)/\Below w.heap.size w w':=by
 have hbA:Below w.heap.size w (w.alloc (.cells #[.slice a vs.length cap] 145)):=gM.alloc nL _;go_enter Tryz.func79,Tryz.ntmps79
 go_wp2_with fail
 refine (dc a vs cap left _ h0 h1 hx (hm.mono hbA)).mono ?_;rintro e w1 ⟨r,rfl,hr,hs,hb⟩;have hB:=hbA.trans (hb.mono hbA.size);by_cases hr0:r<0
 ·go_wp2;go_ret
  exact⟨-1,rfl,by omega,by omega,hB⟩
 ·go_wp2;go_ret
  exact⟨r,rfl,hr,hs,hB⟩
theorem szFrame_any(f p:Int)(a a2:Option Addr)(vs us:List Vl)(cap cap2:Nat)(left:Int)(w:World)(h0:0<=left)(h1:left<=1048576)(hx:bs vs)(hx2:bs us)(hm:aO w 0 a vs)(hm2:aO w 0 a2 us) :
  Calls Tryz.prog 78 #[.agg #[.int .i64 f,.int .i64 p,.slice a vs.length cap,.slice a2 us.length cap2],.int .i64 left] w fun e w'=>∃r:Int,e=.returned (.int .i64 r)/\r<=left/\(0<=r->aK vs/\aK us)/\Below w.heap.size w w':=by
 have hbA:Below w.heap.size w (w.alloc (.cells #[.int .i64 f,.int .i64 p,.slice a vs.length cap,.slice a2 us.length cap2] 142)):=gM.alloc nL _;have hM0:=ah w #[.int .i64 f,.int .i64 p,.slice a vs.length cap,.slice a2 us.length cap2] 142;go_enter Tryz.func78,Tryz.ntmps78
 go_wp2_with fail
 refine (dc a vs cap left _ h0 h1 hx (hm.mono hbA)).mono ?_;rintro e w1 ⟨r,rfl,hr,hs,hb⟩;have hB:=hbA.trans (hb.mono hbA.size);by_cases hr0:r<0
 ·go_wp2;go_ret
  exact⟨-1,rfl,by omega,by omega,hB⟩
 ·have y:=aa (ab hM0 hb);go_wp2_with fail
  refine (dc a2 us cap2 r _ (by omega) (by omega) hx2 (hm2.mono hB)).mono ?_;rintro e w2 ⟨r2,rfl,hr2,hs2,hb2⟩;have hB2:=hB.trans (hb2.mono hB.size);clear y;by_cases hr0:r2<0
  ·go_wp2;go_ret
   exact⟨-1,rfl,by omega,by omega,hB2⟩
  ·go_wp2;go_ret
   exact⟨r2,rfl,by omega,fun _=>⟨hs (by omega),hs2 (by omega)⟩,hB2⟩
theorem szRecS_any(a:Option Addr)(rs:List (List Vl))(cap:Nat)(left:Int)(w:World)(h0:0<=left)(h1:left<=1048576)(hn:rs.length<=maxLen)(hc:∀r∈rs,bs r)(hm:cE w 0 a rs) :
  Calls Tryz.prog 39 #[.slice a rs.length cap,.int .i64 left] w fun e w'=>∃r:Int,e=.returned (.int .i64 r)/\r<=left/\(0<=r->rs.length<=1048576/\∀r∈rs,aK r)/\Below w.heap.size w w':=by
 unfold maxLen at hn;by_cases h:left<rs.length
 ·go_enter Tryz.func39,Tryz.ntmps39
  go_wp2;go_ret
  exact⟨-1,rfl,by omega,by omega,Below.refl _ _⟩
 ·go_enter Tryz.func39,Tryz.ntmps39
  go_wp2;go_loopw [1,5] (fun l i wr=>∃(k:Nat) (q:Int),k<=rs.length/\i=.int .i64 k/\l=.int .i64 q/\0<=q/\q<=left-rs.length/\Hid (∀f∈rs.take k,aK f)/\Below w.heap.size w wr) (fun _ i _=>rs.length-(intOf i).toNat)
  case atStart=>exact⟨0,_,by omega,rfl,rfl,by omega,by omega,by intro f hf;simp at hf,Below.refl _ _⟩
  case round=>
   obtain⟨k,q,hk,rfl,rfl,hq0,hq1,hall,hb⟩:=hrel;by_cases hlt:k<rs.length
   ·obtain⟨b,off,fa,fc,rfl,-,c1,c2⟩:=hm k hlt;have c1':=cell_later hb c1;clear c1;have hck:=hc rs[k] (n_l hlt);go_wp2_with fail
    refine (szRec_any _ _ _ _ _ hq0 (by omega) hck (c2.mono hb)).mono ?_;rintro e w2 ⟨r,rfl,hr,hs,hb'⟩;have hB:=hb.trans (hb'.mono hb.size);clear c1' hb' c2;by_cases hr0:r<0
    ·go_wp2;go_ret
     exact⟨-1,rfl,by omega,by omega,hB⟩
    ·go_wp2;go_roundw
     case rel=>exact⟨k+1,r,by omega,by go_num,rfl,by omega,by omega,aP hlt hall.out (hs (by omega)),hB⟩
     case measure=>simp[intOf];omega
   ·go_wp2;go_ret
    exact⟨q,rfl,by omega,fun _=>⟨by omega,by have:=hall.out;rwa [List.take_of_length_le (by omega)] at this⟩,hb⟩
theorem szFrameS_any(a:Option Addr)(fr:List Fr)(cap:Nat)(left:Int)(w:World)(h0:0<=left)(h1:left<=1048576)(hn:fr.length<=maxLen)(hc:∀f∈fr,bs f.locals)(hc2:∀f∈fr,bs f.stack)(hm:FrsAt w 0 a fr) :
  Calls Tryz.prog 38 #[.slice a fr.length cap,.int .i64 left] w fun e w'=>∃r:Int,e=.returned (.int .i64 r)/\r<=left/\(0<=r->fr.length<=1048576/\∀f∈fr,aK f.locals/\aK f.stack)/\Below w.heap.size w w':=by
 unfold maxLen at hn;by_cases h:left<fr.length
 ·go_enter Tryz.func38,Tryz.ntmps38
  go_wp2;go_ret
  exact⟨-1,rfl,by omega,by omega,Below.refl _ _⟩
 ·go_enter Tryz.func38,Tryz.ntmps38
  go_wp2;go_loopw [1,5] (fun l i wr=>∃(k:Nat) (q:Int),k<=fr.length/\i=.int .i64 k/\l=.int .i64 q/\0<=q/\q<=left-fr.length/\Hid (∀f∈fr.take k,aK f.locals/\aK f.stack)/\Below w.heap.size w wr) (fun _ i _=>fr.length-(intOf i).toNat)
  case atStart=>exact⟨0,_,by omega,rfl,rfl,by omega,by omega,by intro f hf;simp at hf,Below.refl _ _⟩
  case round=>
   obtain⟨k,q,hk,rfl,rfl,hq0,hq1,hall,hb⟩:=hrel;by_cases hlt:k<fr.length
   ·obtain⟨b,off,la,lc,sa,sc,rfl,-,c1,c2,c3,c4,c5,c6⟩:=hm k hlt;have c1':=cell_later hb c1;have c2':=cell_later hb c2;have c3':=cell_later hb c3;have c4':=cell_later hb c4;clear c1 c2 c3 c4;have hck:=hc fr[k] (n_l hlt);have hck2:=hc2 fr[k] (n_l hlt);go_wp2_with fail
    refine (szFrame_any _ _ _ _ _ _ _ _ _ _ hq0 (by omega) hck hck2 (c5.mono hb) (c6.mono hb)).mono ?_;rintro e w2 ⟨r,rfl,hr,hs,hb'⟩;have hB:=hb.trans (hb'.mono hb.size);clear c1' c2' c3' c4' hb' c5 c6;by_cases hr0:r<0
    ·go_wp2;go_ret
     exact⟨-1,rfl,by omega,by omega,hB⟩
    ·go_wp2;go_roundw
     case rel=>exact⟨k+1,r,by omega,by go_num,rfl,by omega,by omega,aP (p:=fun f=>aK f.locals/\aK f.stack) hlt hall.out (hs (by omega)),hB⟩
     case measure=>simp[intOf];omega
   ·go_wp2;go_ret
    exact⟨q,rfl,by omega,fun _=>⟨by omega,by have:=hall.out;rwa [List.take_of_length_le (by omega)] at this⟩,hb⟩
theorem szVm_any(fa ha oa:Option Addr)(fc hcp oc:Nat)(d:VmD)(left:Int)(w:World)(h0:0<=left)(h1:left<=1048576)(hx:VmMax d)(hf:FrsAt w 0 fa d.frames)(hh:cE w 0 ha d.heap)(ho:aT w 0 oa d.out) :
  Calls Tryz.prog 14 #[.agg #[.slice fa d.frames.length fc,.slice ha d.heap.length hcp,.int .i64 d.made,.slice oa d.out.length oc,.int .i64 d.status,.int .i64 d.trap,.int .i64 d.value.k,.int .i64 d.value.n,.string d.value.s,.int .i64 d.steps],.int .i64 left] w fun e w'=>∃r:Int,e=.returned (.int .i64 r)/\r<=left/\(0<=r->bU d)/\Below w.heap.size w w':=by
 have hbA:Below w.heap.size w (w.alloc (.cells #[.slice fa d.frames.length fc,.slice ha d.heap.length hcp,.int .i64 d.made,.slice oa d.out.length oc,.int .i64 d.status,.int .i64 d.trap,.int .i64 d.value.k,.int .i64 d.value.n,.string d.value.s,.int .i64 d.steps] 31)):=gM.alloc nL _;have hM0:=ah w #[.slice fa d.frames.length fc,.slice ha d.heap.length hcp,.int .i64 d.made,.slice oa d.out.length oc,.int .i64 d.status,.int .i64 d.trap,.int .i64 d.value.k,.int .i64 d.value.n,.string d.value.s,.int .i64 d.steps] 31;go_enter Tryz.func14,Tryz.ntmps14
 go_wp2_with fail
 refine (szFrameS_any fa d.frames fc left _ h0 h1 hx.frames hx.locals hx.stack (hf.mono hbA)).mono ?_;rintro e w1 ⟨r1,rfl,hr1,hs1,hb1⟩;have hB1:=hbA.trans (hb1.mono hbA.size);have hM1:=ab hM0 hb1;clear hM0 hb1 hbA;by_cases hn1:r1<0
 ·go_wp2;go_ret
  exact⟨-1,rfl,by omega,by omega,hB1⟩
 have y1:=aa hM1;go_wp2_with fail
 refine (szRecS_any ha d.heap hcp r1 _ (by omega) (by omega) hx.heap hx.fields (hh.mono hB1)).mono ?_;rintro e w2 ⟨r2,rfl,hr2,hs2,hb2⟩;have hB2:=hB1.trans (hb2.mono hB1.size);have hM2:=ab hM1 hb2;clear hM1 hb2 hB1 y1;by_cases hn2:r2<0
 ·go_wp2;go_ret
  exact⟨-1,rfl,by omega,by omega,hB2⟩
 have y2:=aa hM2;go_wp2_with fail
 refine (szStringS_any oa d.out oc r2 _ (by omega) (by omega) hx.out hx.text (ho.mono hB2)).mono ?_;rintro e w3 ⟨r3,rfl,hr3,hs3,hb3⟩;have hB3:=hB2.trans (hb3.mono hB2.size);have hM3:=ab hM2 hb3;clear hM2 hb3 hB2 y2;by_cases hn3:r3<0
 ·go_wp2;go_ret
  exact⟨-1,rfl,by omega,by omega,hB3⟩
 have y3:=aa hM3;go_wp2_with fail
 refine (cW _ _ _ _ _ (by omega) (by omega) hx.value).mono ?_;rintro e w4 ⟨rfl,hb4⟩;have hB4:=hB3.trans (hb4.mono hB3.size);clear hM3 hb4 hB3 y3;by_cases hn4:r3<(d.value.s.size:Int)
 ·rw[if_pos hn4];go_wp2;go_ret
  exact⟨-1,rfl,by omega,by omega,hB4⟩
 ·rw[if_neg hn4];have hn5:¬(r3-(d.value.s.size:Int))<0:=by omega
  go_wp2;go_ret
  exact⟨_,rfl,by omega,fun _=>⟨(hs1 (by omega)).1,fun f hf=>((hs1 (by omega)).2 f hf).1,fun f hf=>((hs1 (by omega)).2 f hf).2,(hs2 (by omega)).1,(hs2 (by omega)).2,(hs3 (by omega)).1,(hs3 (by omega)).2,by omega⟩,hB4⟩
theorem cm(a:Option Addr)(vs:List Vl)(cap:Nat)(w:World)(hn:vs.length<=1048576)(hm:aO w 0 a vs) :
  Calls Tryz.prog 142 #[.slice a vs.length cap] w fun e w'=>e=.returned (.slice (some ⟨w.heap.size,0,none⟩) vs.length vs.length)/\aO w' w.heap.size (some ⟨w.heap.size,0,none⟩) vs/\cV w' w.heap.size vs.length/\Below w.heap.size w w':=by
 obtain⟨i0,hi,hz0,hz1,hz2⟩:=info_parts info46;go_enter Tryz.func142,Tryz.ntmps142
 go_wp2_with (first | (at_make;refine wpList_make_full _ rfl _ _ 156 rfl w.heap.size 46 i0 (.agg #[.int .i64 0,.int .i64 0,.string ByteArray.empty]) 3 Tryz.underlying156 hi hz0 hz1 _ _ _ _ vs.length rfl rfl rfl rfl (by rw[hz2];omega) (by unfold maxLen;omega) nL ?_;intro w1 hown hgrow))
 obtain⟨cur0,hblk,hsz⟩:=aR hown;have hb0:Below w.heap.size w w1:=gM.grown hgrow nL (by intro k hk;cases hk);clear hown hgrow hi hz0 hz1 hz2;go_loopw [4] (fun i wr=>∃(k:Nat) (cur:Array Value),k<=vs.length/\i=.int .i64 k/\wr.heap[w.heap.size]?=some (.cells cur 46 (0,0))/\cur.size=vs.length*3/\(∀j (hj:j<vs.length),j<k->cur[j*3]?=some (.int .i64 vs[j].k)/\cur[j*3+1]?=some (.int .i64 vs[j].n)/\cur[j*3+2]?=some (.string vs[j].s))/\Below w.heap.size w wr) (fun i _=>vs.length-(intOf i).toNat)
 case atStart=>exact⟨0,cur0,by omega,rfl,hblk,hsz,fun j _ h=>by omega,hb0⟩
 case round=>
  obtain⟨k,cur,hk,rfl,hblk,hsz,hdone,hb⟩:=hrel;by_cases hlt:k<vs.length
  ·obtain⟨b,off,rfl,-,c1,c2,c3⟩:=hm k hlt;have c1':=cell_later hb c1;have c2':=cell_later hb c2;have c3':=cell_later hb c3;clear c1 c2 c3;go_wp2_with fail
   refine (cS _ _ _ _).mono ?_;rintro e w2 ⟨rfl,hb2⟩;have hblk2:=ab hblk hb2;have hfz:=am hblk2;have hcl:w2.cell? ⟨w.heap.size,k*3,none⟩=some cur[k*3]:=by rw[aa hblk2];simp
   have hcl2:w2.cell? ⟨w.heap.size,k*3+1,none⟩=some cur[k*3+1]:=by rw[aa hblk2];simp
   have hcl3:w2.cell? ⟨w.heap.size,k*3+2,none⟩=some cur[k*3+2]:=by rw[aa hblk2];simp
   have hb3:Below w.heap.size w w2:=hb.trans (hb2.mono hb.size);go_wp2;go_roundw
   case rel=>
    refine⟨k+1,((cur.setIfInBounds (k*3) (.int .i64 vs[k].k)).setIfInBounds (k*3+1) (.int .i64 vs[k].n)).setIfInBounds (k*3+2) (.string vs[k].s),by omega,by go_num,ao (ao (ao hblk2 _) _) _,by simpa using hsz,?_,((hb3.setCell nL _).setCell nL _).setCell nL _⟩;intro j hj hjk;by_cases e:j=k
    ·subst e;refine⟨?_,?_,?_⟩
     ·rw[ac _ (by omega),ac _ (by omega)];exact az _ (by omega)
     ·rw[ac _ (by omega)];exact az _ (by simp;omega)
     ·exact az _ (by simp;omega)
    ·obtain⟨d1,d2,d3⟩:=hdone j hj (by omega);refine⟨?_,?_,?_⟩
     ·rw[ac _ (by omega),ac _ (by omega),ac _ (by omega)];exact d1
     ·rw[ac _ (by omega),ac _ (by omega),ac _ (by omega)];exact d2
     ·rw[ac _ (by omega),ac _ (by omega),ac _ (by omega)];exact d3
   case measure=>simp[intOf];omega
  ·go_wp2;go_ret
   refine⟨rfl,fun j hj=>?_,⟨cur,hblk,hsz⟩,hb⟩;obtain⟨d1,d2,d3⟩:=hdone j hj (by omega);exact⟨w.heap.size,0,rfl,Nat.le_refl _,by rw[aa hblk,Nat.zero_add];exact d1,by rw[aa hblk,Nat.zero_add];exact d2,by rw[aa hblk,Nat.zero_add];exact d3⟩
theorem toRec_any(a:Option Addr)(vs:List Vl)(cap:Nat)(w:World)(hn:vs.length<=1048576)(hm:aO w 0 a vs) :
  Calls Tryz.prog 97 #[.agg #[.slice a vs.length cap]] w fun e w'=>∃g,w.heap.size<=g/\e=.returned (.agg #[.slice (some ⟨g,0,none⟩) vs.length vs.length])/\aO w' w.heap.size (some ⟨g,0,none⟩) vs/\Below w.heap.size w w':=by
 go_enter Tryz.func97,Tryz.ntmps97
 go_wp2_with fail
 have hbA:Below w.heap.size w (((w.alloc (.cells #[.slice a vs.length cap] 145)).alloc (.cells #[.slice none 0 0] 158)).alloc (.cells #[.slice none 0 0] 158)):=
  ((gM.alloc nL _).alloc (by simp) _).alloc (by simp;omega) _
 refine (cm a vs cap _ hn (hm.mono hbA)).mono ?_;rintro e w1 ⟨rfl,hv,-,hb⟩;have hR:=ab (al (ah (w.alloc (.cells #[.slice a vs.length cap] 145)) #[.slice none 0 0] 158) (.cells #[.slice none 0 0] 158)) hb;have hO:=ab (ah ((w.alloc (.cells #[.slice a vs.length cap] 145)).alloc (.cells #[.slice none 0 0] 158)) #[.slice none 0 0] 158) hb;simp only[World.size_alloc] at hR hO hv
 have r1:=aa hR;have r2:=am hR;have o1:=aa hO;have o2:=am hO;have hb1:Below w.heap.size w w1:=hbA.trans (hb.mono (by simp;omega));go_wp2;refine bodyPost_ret (v:=.agg #[.slice (some ⟨w.heap.size+1+1+1,0,none⟩) vs.length vs.length]) (by simp[results,Tryz.results97,go_sem,r1]) rfl ⟨_,by omega,rfl,?_,?_⟩
 ·exact (hv.above (((aL.refl _ _).setCell (by simp) _).setCell (by simp) _)).low (by omega)
 ·exact (hb1.setCell (by simp;omega) _).setCell (by simp) _
theorem da(a a2:Option Addr)(vs:List Vl)(cap cap2:Nat)(w:World)(hn:vs.length<=1048576)(hm:aO w 0 a vs)(hm2:aO w 0 a2 vs) :
  Calls Tryz.prog 167 #[.slice a vs.length cap,.slice a2 vs.length cap2] w fun e w'=>e=.returned (.bool true)/\Below w.heap.size w w':=by
 go_enter Tryz.func167,Tryz.ntmps167
 go_wp2;go_loopw [5] (fun i wr=>∃(k:Nat),k<=vs.length/\i=.int .i64 k/\Below w.heap.size w wr) (fun i _=>vs.length-(intOf i).toNat)
 case atStart=>exact⟨0,by omega,rfl,Below.refl _ _⟩
 case round=>
  obtain⟨k,hk,rfl,hb⟩:=hrel;by_cases hlt:k<vs.length
  ·obtain⟨b,off,rfl,-,c1,d1,f1⟩:=hm k hlt;obtain⟨b2,off2,rfl,-,c2,d2,f2⟩:=hm2 k hlt;have c1':=cell_later hb c1;have c2':=cell_later hb c2;have d1':=cell_later hb d1;have d2':=cell_later hb d2;have f1':=cell_later hb f1;have f2':=cell_later hb f2;clear c1 c2 d1 d2 f1 f2;go_wp2;go_region_with (go_at_call 73;refine (ct _ _ _ _).mono ?_;rintro e w1 ⟨rfl,hb1⟩)
   all_goals
    go_wp2;go_roundw
    case rel=>
     refine⟨k+1,by omega,by go_num,Below.trans ?_ (hb1.mono ?_)⟩
     ·repeat (first | exact hb | apply Below.drew)
     ·exact hb.size
    case measure=>simp[intOf];omega
  ·go_wp2;go_ret
   exact⟨rfl,hb⟩
theorem eqRec_any(a a2:Option Addr)(vs:List Vl)(cap cap2:Nat)(w:World)(hn:vs.length<=1048576)(hm:aO w 0 a vs)(hm2:aO w 0 a2 vs) :
  Calls Tryz.prog 122 #[.agg #[.slice a vs.length cap],.agg #[.slice a2 vs.length cap2]] w fun e w'=>e=.returned (.bool true)/\Below w.heap.size w w':=by
 go_enter Tryz.func122,Tryz.ntmps122
 go_wp2_with fail
 have hbA:Below w.heap.size w ((w.alloc (.cells #[.slice a vs.length cap] 158)).alloc (.cells #[.slice a2 vs.length cap2] 158)):=(gM.alloc nL _).alloc (by simp) _;refine (da a a2 vs cap cap2 _ hn (hm.mono hbA) (hm2.mono hbA)).mono ?_;rintro e w1 ⟨rfl,hb⟩;go_wp2;go_ret
 exact⟨rfl,hbA.trans (hb.mono (by simp;omega))⟩
theorem eqFrame_any(f p:Int)(a a2 b b2:Option Addr)(vs us:List Vl)(c1 c2 e1 e2:Nat)(w:World)(hn:vs.length<=1048576)(hn2:us.length<=1048576)(hm:aO w 0 a vs)(hm2:aO w 0 a2 vs)(hs:aO w 0 b us)(hs2:aO w 0 b2 us) :
  Calls Tryz.prog 121 #[.agg #[.int .i64 f,.int .i64 p,.slice a vs.length c1,.slice b us.length e1],.agg #[.int .i64 f,.int .i64 p,.slice a2 vs.length c2,.slice b2 us.length e2]] w fun e w'=>e=.returned (.bool true)/\Below w.heap.size w w':=by
 have hbA:Below w.heap.size w ((w.alloc (.cells #[.int .i64 f,.int .i64 p,.slice a vs.length c1,.slice b us.length e1] 163)).alloc (.cells #[.int .i64 f,.int .i64 p,.slice a2 vs.length c2,.slice b2 us.length e2] 163)):=(gM.alloc nL _).alloc (by simp) _;have hX0:=al (ah w #[.int .i64 f,.int .i64 p,.slice a vs.length c1,.slice b us.length e1] 163) (.cells #[.int .i64 f,.int .i64 p,.slice a2 vs.length c2,.slice b2 us.length e2] 163);have hY0:=ah (w.alloc (.cells #[.int .i64 f,.int .i64 p,.slice a vs.length c1,.slice b us.length e1] 163)) #[.int .i64 f,.int .i64 p,.slice a2 vs.length c2,.slice b2 us.length e2] 163;simp only[World.size_alloc] at hY0
 go_enter Tryz.func121,Tryz.ntmps121
 go_wp2_with fail
 refine (da a a2 vs c1 c2 _ hn (hm.mono hbA) (hm2.mono hbA)).mono ?_;rintro e w1 ⟨rfl,hb⟩;have hB1:=hbA.trans (hb.mono hbA.size);have x1:=aa (ab hX0 hb);have y1:=aa (ab hY0 hb);go_wp2_with fail
 refine (da b b2 us e1 e2 _ hn2 (hs.mono hB1) (hs2.mono hB1)).mono ?_;rintro e w2 ⟨rfl,hb2⟩;clear x1 y1;go_wp2;go_ret
 exact⟨rfl,hB1.trans (hb2.mono hB1.size)⟩
theorem eqRecS_any(a a2:Option Addr)(rs:List (List Vl))(cap cap2:Nat)(w:World)(hn:rs.length<=1048576)(hc:∀r∈rs,aK r)(hm:cE w 0 a rs)(hm2:cE w 0 a2 rs) :
  Calls Tryz.prog 72 #[.slice a rs.length cap,.slice a2 rs.length cap2] w fun e w'=>e=.returned (.bool true)/\Below w.heap.size w w':=by
 go_enter Tryz.func72,Tryz.ntmps72
 go_wp2;go_loopw [5] (fun i wr=>∃(k:Nat),k<=rs.length/\i=.int .i64 k/\Below w.heap.size w wr) (fun i _=>rs.length-(intOf i).toNat)
 case atStart=>exact⟨0,by omega,rfl,Below.refl _ _⟩
 case round=>
  obtain⟨k,hk,rfl,hb⟩:=hrel;by_cases hlt:k<rs.length
  ·obtain⟨b,off,ca,cc,rfl,-,c1,f1⟩:=hm k hlt;obtain⟨b2,off2,ca2,cc2,rfl,-,c2,f2⟩:=hm2 k hlt;have c1':=cell_later hb c1;have c2':=cell_later hb c2;have hck:=(hc rs[k] (n_l hlt)).1;clear c1 c2;go_wp2;go_region_with (go_at_call 122;refine (eqRec_any _ _ _ _ _ _ hck (by exact f1.mono (by repeat (first | exact hb | apply Below.drew))) (by exact f2.mono (by repeat (first | exact hb | apply Below.drew)))).mono ?_;rintro e w1 ⟨rfl,hb1⟩)
   all_goals
    go_wp2;go_roundw
    case rel=>
     refine⟨k+1,by omega,by go_num,Below.trans ?_ (hb1.mono ?_)⟩
     ·repeat (first | exact hb | apply Below.drew)
     ·exact hb.size
    case measure=>simp[intOf];omega
  ·go_wp2;go_ret
   exact⟨rfl,hb⟩
theorem eqFrameS_any(a a2:Option Addr)(fr:List Fr)(cap cap2:Nat)(w:World)(hn:fr.length<=1048576)(hc:∀f∈fr,aK f.locals)(hc2:∀f∈fr,aK f.stack)(hm:FrsAt w 0 a fr)(hm2:FrsAt w 0 a2 fr) :
  Calls Tryz.prog 71 #[.slice a fr.length cap,.slice a2 fr.length cap2] w fun e w'=>e=.returned (.bool true)/\Below w.heap.size w w':=by
 go_enter Tryz.func71,Tryz.ntmps71
 go_wp2;go_loopw [5] (fun i wr=>∃(k:Nat),k<=fr.length/\i=.int .i64 k/\Below w.heap.size w wr) (fun i _=>fr.length-(intOf i).toNat)
 case atStart=>exact⟨0,by omega,rfl,Below.refl _ _⟩
 case round=>
  obtain⟨k,hk,rfl,hb⟩:=hrel;by_cases hlt:k<fr.length
  ·obtain⟨b,off,la,lc,sa,sc,rfl,-,c1,d1,e1,g1,p1,q1⟩:=hm k hlt;obtain⟨b2,off2,la2,lc2,sa2,sc2,rfl,-,c2,d2,e2,g2,p2,q2⟩:=hm2 k hlt;have c1':=cell_later hb c1;have c2':=cell_later hb c2;have d1':=cell_later hb d1;have d2':=cell_later hb d2;have e1':=cell_later hb e1;have e2':=cell_later hb e2;have g1':=cell_later hb g1;have g2':=cell_later hb g2;have hck:=(hc fr[k] (n_l hlt)).1;have hck2:=(hc2 fr[k] (n_l hlt)).1;clear c1 c2 d1 d2 e1 e2 g1 g2;go_wp2;go_region_with (go_at_call 121;refine (eqFrame_any _ _ _ _ _ _ _ _ _ _ _ _ _ hck hck2 (by exact p1.mono (by repeat (first | exact hb | apply Below.drew))) (by exact p2.mono (by repeat (first | exact hb | apply Below.drew))) (by exact q1.mono (by repeat (first | exact hb | apply Below.drew))) (by exact q2.mono (by repeat (first | exact hb | apply Below.drew)))).mono ?_;rintro e w1 ⟨rfl,hb1⟩)
   all_goals
    go_wp2;go_roundw
    case rel=>
     refine⟨k+1,by omega,by go_num,Below.trans ?_ (hb1.mono ?_)⟩
     ·repeat (first | exact hb | apply Below.drew)
     ·exact hb.size
    case measure=>simp[intOf];omega
  ·go_wp2;go_ret
   exact⟨rfl,hb⟩
theorem eqVm_any(fa ha oa fb hb' ob:Option Addr)(fc hcp oc fc2 hcp2 oc2:Nat)(d:VmD)(w:World)(hx:bU d)(hm:VmAt w 0 fa ha oa d)(hm2:VmAt w 0 fb hb' ob d) :
  Calls Tryz.prog 33 #[.agg (aQ fa ha oa fc hcp oc d),.agg (aQ fb hb' ob fc2 hcp2 oc2 d)] w fun e w'=>e=.returned (.bool true)/\Below w.heap.size w w':=by
 have hbA:Below w.heap.size w ((w.alloc (.cells (aQ fa ha oa fc hcp oc d) 48)).alloc (.cells (aQ fb hb' ob fc2 hcp2 oc2 d) 48)):=(gM.alloc nL _).alloc (by simp) _;have hX0:=al (ah w (aQ fa ha oa fc hcp oc d) 48) (.cells (aQ fb hb' ob fc2 hcp2 oc2 d) 48);have hY0:=ah (w.alloc (.cells (aQ fa ha oa fc hcp oc d) 48)) (aQ fb hb' ob fc2 hcp2 oc2 d) 48;simp only[World.size_alloc] at hY0
 unfold aQ at hbA hX0 hY0 ⊢;go_enter Tryz.func33,Tryz.ntmps33
 go_wp2_with fail
 refine (eqFrameS_any _ _ d.frames _ _ _ hx.frames hx.locals hx.stack (hm.frs.mono hbA) (hm2.frs.mono hbA)).mono ?_;rintro e w1 ⟨rfl,hb⟩;have hB1:=hbA.trans (hb.mono hbA.size);have hX1:=ab hX0 hb;have hY1:=ab hY0 hb;have x1:=aa hX1;have y1:=aa hY1;clear hbA hX0 hY0 hb;go_wp2_with fail
 refine (eqRecS_any _ _ d.heap _ _ _ hx.heap hx.fields (hm.recs.mono hB1) (hm2.recs.mono hB1)).mono ?_;rintro e w2 ⟨rfl,hb⟩;have hB2:=hB1.trans (hb.mono hB1.size);have hX2:=ab hX1 hb;have hY2:=ab hY1 hb;clear x1 y1 hX1 hY1 hB1 hb;have x2:=aa hX2;have y2:=aa hY2;go_wp2_with fail
 refine (eqStringS_any _ _ d.out _ _ _ hx.out (hm.out.mono hB2) (hm2.out.mono hB2)).mono ?_;rintro e w3 ⟨rfl,hb⟩;have hB3:=hB2.trans (hb.mono hB2.size);have hX3:=ab hX2 hb;have hY3:=ab hY2 hb;clear x2 y2 hX2 hY2 hB2 hb;have x3:=aa hX3;have y3:=aa hY3;go_wp2_with fail
 refine (ct _ _ _ _).mono ?_;rintro e w4 ⟨rfl,hb⟩;have hB4:=hB3.trans (hb.mono hB3.size);have x4:=aa (ab hX3 hb);have y4:=aa (ab hY3 hb);clear x3 y3 hX3 hY3 hB3 hb;go_wp2;go_ret
 exact⟨rfl,hB4⟩
def noSl (o:Option Value):Prop:=∀a n k,o≠some (.slice a n k)
theorem aW(k:IntKind)(i:Int):noSl (some (.int k i)):=fun _ _ _ h=>by cases h
theorem noSl_str(s:ByteArray):noSl (some (.string s)):=fun _ _ _ h=>by cases h
def bH (lo:Nat)(w w':World):Prop:=∀(k:Nat) o,lo<=k->w.heap[k]?=some o->w'.heap[k]?=some o
theorem bH.below{lo:Nat}{w w':World}(h:Below w.heap.size w w'):bH lo w w':=fun _ _ _ hk=>ab hk h
theorem bH.above{lo:Nat}{w w':World}(h:aL lo w w'):bH lo w w':=fun k _ hl hk=>by rw[h k hl (Array.getElem?_eq_some_iff.1 hk).1];exact hk
def SrB (w:World)(lo g:Nat)(xs:List Sr):Prop:=lo<=g/\∃cur:Array Value,w.heap[g]?=some (.cells cur 273 (0,0))/\cur.size=xs.length*5/\∀j (_:j<xs.length),noSl cur[j*5]?/\noSl cur[j*5+1]?/\noSl cur[j*5+2]?/\noSl cur[j*5+3]?/\noSl cur[j*5+4]?
theorem SrB.keep{w w':World}{lo g:Nat}{xs:List Sr}(h:SrB w lo g xs)(hk:bH lo w w'):SrB w' lo g xs:=by
 obtain⟨hl,cur,h1,h2,h3⟩:=h;refine⟨hl,cur,hk _ _ hl h1,h2,fun j hj=>?_⟩;obtain⟨n0,n1,n2,n3,n4⟩:=h3 j hj;exact⟨n0,n1,n2,n3,n4⟩
theorem SrB.low{w:World}{lo lo' g:Nat}{xs:List Sr}(h:SrB w lo g xs)(hl:lo'<=lo):SrB w lo' g xs:=by
 obtain⟨hl1,cur,h1,h2,h3⟩:=h;refine⟨by omega,cur,h1,h2,fun j hj=>?_⟩;obtain⟨n0,n1,n2,n3,n4⟩:=h3 j hj;exact⟨n0,n1,n2,n3,n4⟩
structure SrY (w:World)(lo:Nat)(a:Option Addr)(xs:List Sr):Prop where
 at_:bq w lo a xs
 sh:∃g,a=some ⟨g,0,none⟩/\SrB w lo g xs
theorem SrY.mono{w w':World}{lo:Nat}{a:Option Addr}{xs:List Sr}(h:SrY w lo a xs)(hb:Below w.heap.size w w'):SrY w' lo a xs:=⟨h.at_.mono hb,by obtain⟨g,h1,h2⟩:=h.sh;exact⟨g,h1,h2.keep (bH.below hb)⟩⟩
theorem SrY.above{w w':World}{lo:Nat}{a:Option Addr}{xs:List Sr}(h:SrY w lo a xs)(hb:aL lo w w'):SrY w' lo a xs:=⟨h.at_.above hb,by obtain⟨g,h1,h2⟩:=h.sh;exact⟨g,h1,h2.keep (bH.above hb)⟩⟩
theorem SrY.low{w:World}{lo lo':Nat}{a:Option Addr}{xs:List Sr}(h:SrY w lo a xs)(hl:lo'<=lo):SrY w lo' a xs:=⟨h.at_.low hl,by obtain⟨g,h1,h2⟩:=h.sh;exact⟨g,h1,h2.low hl⟩⟩
theorem SrY.of{w:World}{lo g:Nat}{xs:List Sr}(h:SrY w lo (some ⟨g,0,none⟩) xs):SrB w lo g xs:=by obtain⟨g2,h1,h2⟩:=h.sh;cases h1;exact h2
def EFB (w:World)(lo g:Nat)(xs:List EF):Prop:=lo<=g/\∃cur:Array Value,w.heap[g]?=some (.cells cur 227 (0,0))/\cur.size=xs.length*4/\∀j (_:j<xs.length),noSl cur[j*4]?/\noSl cur[j*4+1]?/\∃g0 g1,cur[j*4+2]?=some (.slice (some ⟨g0,0,none⟩) xs[j].locals.length xs[j].locals.length)/\cur[j*4+3]?=some (.slice (some ⟨g1,0,none⟩) xs[j].stack.length xs[j].stack.length)/\SrB w lo g0 xs[j].locals/\SrB w lo g1 xs[j].stack
theorem EFB.keep{w w':World}{lo g:Nat}{xs:List EF}(h:EFB w lo g xs)(hk:bH lo w w'):EFB w' lo g xs:=by
 obtain⟨hl,cur,h1,h2,h3⟩:=h;refine⟨hl,cur,hk _ _ hl h1,h2,fun j hj=>?_⟩;obtain⟨n0,n1,g0,g1,d0,d1,s0,s1⟩:=h3 j hj;exact⟨n0,n1,g0,g1,d0,d1,s0.keep hk,s1.keep hk⟩
theorem EFB.low{w:World}{lo lo' g:Nat}{xs:List EF}(h:EFB w lo g xs)(hl:lo'<=lo):EFB w lo' g xs:=by
 obtain⟨hl1,cur,h1,h2,h3⟩:=h;refine⟨by omega,cur,h1,h2,fun j hj=>?_⟩;obtain⟨n0,n1,g0,g1,d0,d1,s0,s1⟩:=h3 j hj;exact⟨n0,n1,g0,g1,d0,d1,s0.low hl,s1.low hl⟩
structure EFY (w:World)(lo:Nat)(a:Option Addr)(xs:List EF):Prop where
 at_:bZ w lo a xs
 sh:∃g,a=some ⟨g,0,none⟩/\EFB w lo g xs
theorem EFY.mono{w w':World}{lo:Nat}{a:Option Addr}{xs:List EF}(h:EFY w lo a xs)(hb:Below w.heap.size w w'):EFY w' lo a xs:=⟨h.at_.mono hb,by obtain⟨g,h1,h2⟩:=h.sh;exact⟨g,h1,h2.keep (bH.below hb)⟩⟩
theorem EFY.above{w w':World}{lo:Nat}{a:Option Addr}{xs:List EF}(h:EFY w lo a xs)(hb:aL lo w w'):EFY w' lo a xs:=⟨h.at_.above hb,by obtain⟨g,h1,h2⟩:=h.sh;exact⟨g,h1,h2.keep (bH.above hb)⟩⟩
theorem EFY.low{w:World}{lo lo':Nat}{a:Option Addr}{xs:List EF}(h:EFY w lo a xs)(hl:lo'<=lo):EFY w lo' a xs:=⟨h.at_.low hl,by obtain⟨g,h1,h2⟩:=h.sh;exact⟨g,h1,h2.low hl⟩⟩
theorem EFY.of{w:World}{lo g:Nat}{xs:List EF}(h:EFY w lo (some ⟨g,0,none⟩) xs):EFB w lo g xs:=by obtain⟨g2,h1,h2⟩:=h.sh;cases h1;exact h2
def ERB (w:World)(lo g:Nat)(xs:List ER):Prop:=lo<=g/\∃cur:Array Value,w.heap[g]?=some (.cells cur 230 (0,0))/\cur.size=xs.length*1/\∀j (_:j<xs.length),∃g0,cur[j]?=some (.slice (some ⟨g0,0,none⟩) xs[j].fields.length xs[j].fields.length)/\SrB w lo g0 xs[j].fields
theorem ERB.keep{w w':World}{lo g:Nat}{xs:List ER}(h:ERB w lo g xs)(hk:bH lo w w'):ERB w' lo g xs:=by
 obtain⟨hl,cur,h1,h2,h3⟩:=h;refine⟨hl,cur,hk _ _ hl h1,h2,fun j hj=>?_⟩;obtain⟨g0,d0,s0⟩:=h3 j hj;exact⟨g0,d0,s0.keep hk⟩
theorem ERB.low{w:World}{lo lo' g:Nat}{xs:List ER}(h:ERB w lo g xs)(hl:lo'<=lo):ERB w lo' g xs:=by
 obtain⟨hl1,cur,h1,h2,h3⟩:=h;refine⟨by omega,cur,h1,h2,fun j hj=>?_⟩;obtain⟨g0,d0,s0⟩:=h3 j hj;exact⟨g0,d0,s0.low hl⟩
structure ERY (w:World)(lo:Nat)(a:Option Addr)(xs:List ER):Prop where
 at_:b8 w lo a xs
 sh:∃g,a=some ⟨g,0,none⟩/\ERB w lo g xs
theorem ERY.mono{w w':World}{lo:Nat}{a:Option Addr}{xs:List ER}(h:ERY w lo a xs)(hb:Below w.heap.size w w'):ERY w' lo a xs:=⟨h.at_.mono hb,by obtain⟨g,h1,h2⟩:=h.sh;exact⟨g,h1,h2.keep (bH.below hb)⟩⟩
theorem ERY.above{w w':World}{lo:Nat}{a:Option Addr}{xs:List ER}(h:ERY w lo a xs)(hb:aL lo w w'):ERY w' lo a xs:=⟨h.at_.above hb,by obtain⟨g,h1,h2⟩:=h.sh;exact⟨g,h1,h2.keep (bH.above hb)⟩⟩
theorem ERY.low{w:World}{lo lo':Nat}{a:Option Addr}{xs:List ER}(h:ERY w lo a xs)(hl:lo'<=lo):ERY w lo' a xs:=⟨h.at_.low hl,by obtain⟨g,h1,h2⟩:=h.sh;exact⟨g,h1,h2.low hl⟩⟩
theorem ERY.of{w:World}{lo g:Nat}{xs:List ER}(h:ERY w lo (some ⟨g,0,none⟩) xs):ERB w lo g xs:=by obtain⟨g2,h1,h2⟩:=h.sh;cases h1;exact h2
def ExB (w:World)(lo g:Nat)(xs:List Ex):Prop:=lo<=g/\∃cur:Array Value,w.heap[g]?=some (.cells cur 175 (0,0))/\cur.size=xs.length*7/\∀j (_:j<xs.length),noSl cur[j*7]?/\noSl cur[j*7+1]?/\noSl cur[j*7+2]?/\noSl cur[j*7+3]?/\noSl cur[j*7+4]?/\∃g0 g1,cur[j*7+5]?=some (.slice (some ⟨g0,0,none⟩) xs[j].frames.length xs[j].frames.length)/\cur[j*7+6]?=some (.slice (some ⟨g1,0,none⟩) xs[j].recs.length xs[j].recs.length)/\EFB w lo g0 xs[j].frames/\ERB w lo g1 xs[j].recs
theorem ExB.keep{w w':World}{lo g:Nat}{xs:List Ex}(h:ExB w lo g xs)(hk:bH lo w w'):ExB w' lo g xs:=by
 obtain⟨hl,cur,h1,h2,h3⟩:=h;refine⟨hl,cur,hk _ _ hl h1,h2,fun j hj=>?_⟩;obtain⟨n0,n1,n2,n3,n4,g0,g1,d0,d1,s0,s1⟩:=h3 j hj;exact⟨n0,n1,n2,n3,n4,g0,g1,d0,d1,s0.keep hk,s1.keep hk⟩
theorem ExB.low{w:World}{lo lo' g:Nat}{xs:List Ex}(h:ExB w lo g xs)(hl:lo'<=lo):ExB w lo' g xs:=by
 obtain⟨hl1,cur,h1,h2,h3⟩:=h;refine⟨by omega,cur,h1,h2,fun j hj=>?_⟩;obtain⟨n0,n1,n2,n3,n4,g0,g1,d0,d1,s0,s1⟩:=h3 j hj;exact⟨n0,n1,n2,n3,n4,g0,g1,d0,d1,s0.low hl,s1.low hl⟩
structure ExY (w:World)(lo:Nat)(a:Option Addr)(xs:List Ex):Prop where
 at_:bV w lo a xs
 sh:∃g,a=some ⟨g,0,none⟩/\ExB w lo g xs
theorem ExY.mono{w w':World}{lo:Nat}{a:Option Addr}{xs:List Ex}(h:ExY w lo a xs)(hb:Below w.heap.size w w'):ExY w' lo a xs:=⟨h.at_.mono hb,by obtain⟨g,h1,h2⟩:=h.sh;exact⟨g,h1,h2.keep (bH.below hb)⟩⟩
theorem ExY.above{w w':World}{lo:Nat}{a:Option Addr}{xs:List Ex}(h:ExY w lo a xs)(hb:aL lo w w'):ExY w' lo a xs:=⟨h.at_.above hb,by obtain⟨g,h1,h2⟩:=h.sh;exact⟨g,h1,h2.keep (bH.above hb)⟩⟩
theorem ExY.low{w:World}{lo lo':Nat}{a:Option Addr}{xs:List Ex}(h:ExY w lo a xs)(hl:lo'<=lo):ExY w lo' a xs:=⟨h.at_.low hl,by obtain⟨g,h1,h2⟩:=h.sh;exact⟨g,h1,h2.low hl⟩⟩
theorem ExY.of{w:World}{lo g:Nat}{xs:List Ex}(h:ExY w lo (some ⟨g,0,none⟩) xs):ExB w lo g xs:=by obtain⟨g2,h1,h2⟩:=h.sh;cases h1;exact h2
def FoB (w:World)(lo g:Nat)(xs:List Fo):Prop:=lo<=g/\∃cur:Array Value,w.heap[g]?=some (.cells cur 177 (0,0))/\cur.size=xs.length*10/\∀j (_:j<xs.length),noSl cur[j*10]?/\noSl cur[j*10+1]?/\noSl cur[j*10+2]?/\noSl cur[j*10+3]?/\noSl cur[j*10+4]?/\noSl cur[j*10+5]?/\noSl cur[j*10+6]?/\noSl cur[j*10+7]?/\noSl cur[j*10+8]?/\noSl cur[j*10+9]?
theorem FoB.keep{w w':World}{lo g:Nat}{xs:List Fo}(h:FoB w lo g xs)(hk:bH lo w w'):FoB w' lo g xs:=by
 obtain⟨hl,cur,h1,h2,h3⟩:=h;refine⟨hl,cur,hk _ _ hl h1,h2,fun j hj=>?_⟩;obtain⟨n0,n1,n2,n3,n4,n5,n6,n7,n8,n9⟩:=h3 j hj;exact⟨n0,n1,n2,n3,n4,n5,n6,n7,n8,n9⟩
theorem FoB.low{w:World}{lo lo' g:Nat}{xs:List Fo}(h:FoB w lo g xs)(hl:lo'<=lo):FoB w lo' g xs:=by
 obtain⟨hl1,cur,h1,h2,h3⟩:=h;refine⟨by omega,cur,h1,h2,fun j hj=>?_⟩;obtain⟨n0,n1,n2,n3,n4,n5,n6,n7,n8,n9⟩:=h3 j hj;exact⟨n0,n1,n2,n3,n4,n5,n6,n7,n8,n9⟩
structure FoY (w:World)(lo:Nat)(a:Option Addr)(xs:List Fo):Prop where
 at_:bS w lo a xs
 sh:∃g,a=some ⟨g,0,none⟩/\FoB w lo g xs
theorem FoY.mono{w w':World}{lo:Nat}{a:Option Addr}{xs:List Fo}(h:FoY w lo a xs)(hb:Below w.heap.size w w'):FoY w' lo a xs:=⟨h.at_.mono hb,by obtain⟨g,h1,h2⟩:=h.sh;exact⟨g,h1,h2.keep (bH.below hb)⟩⟩
theorem FoY.above{w w':World}{lo:Nat}{a:Option Addr}{xs:List Fo}(h:FoY w lo a xs)(hb:aL lo w w'):FoY w' lo a xs:=⟨h.at_.above hb,by obtain⟨g,h1,h2⟩:=h.sh;exact⟨g,h1,h2.keep (bH.above hb)⟩⟩
theorem FoY.low{w:World}{lo lo':Nat}{a:Option Addr}{xs:List Fo}(h:FoY w lo a xs)(hl:lo'<=lo):FoY w lo' a xs:=⟨h.at_.low hl,by obtain⟨g,h1,h2⟩:=h.sh;exact⟨g,h1,h2.low hl⟩⟩
theorem FoY.of{w:World}{lo g:Nat}{xs:List Fo}(h:FoY w lo (some ⟨g,0,none⟩) xs):FoB w lo g xs:=by obtain⟨g2,h1,h2⟩:=h.sh;cases h1;exact h2
theorem infoS148:(Tryz.prog.info? 148).map (fun i=>(i.zero,i.size,i.bytes))=some (some (.slice none 0 0),1,24):=by kernel_rfl
def APostS (ts:List ByteArray)(fs:List Fn)(base:Nat)(w':World)(e:Ending):Prop:=∃v c f a,(∃x n k,v=.slice x n k)/\e=.returned (.tuple #[v,.agg #[.int .i64 c,.int .i64 f,.int .i64 a]])/\VPost ts fs c f a/\(c=0->∃G,v=.slice (some ⟨G,0,none⟩) fs.length fs.length/\Hs w' base G fs.length fs)
theorem iAllS_any(a1 a2:Option Addr)(c1 c2:Nat)(ts:List ByteArray)(fs:List Fn)(w:World)(hs:b9 ts fs)(hm:aT w 0 a1 ts)(hm2:FnsAt w 0 a2 fs) :
  Calls Tryz.prog 55 #[.agg #[.slice a1 ts.length c1,.slice a2 fs.length c2]] w fun e w'=>APostS ts fs w.heap.size w' e/\Below w.heap.size w w':=by
 obtain⟨i0,hi,hz0,hz1,hz2⟩:=info_parts infoS148;have hn:=hs.funcs;have hbA:Below w.heap.size w ((w.alloc (.cells #[.slice a1 ts.length c1,.slice a2 fs.length c2] 42)).alloc (.cells #[.int .i64 0,.int .i64 0,.int .i64 0] 95)):=(gM.alloc nL _).alloc (by simp) _;have hM0:=al (ah w #[.slice a1 ts.length c1,.slice a2 fs.length c2] 42) (.cells #[.int .i64 0,.int .i64 0,.int .i64 0] 95);have hR0:=ah (w.alloc (.cells #[.slice a1 ts.length c1,.slice a2 fs.length c2] 42)) #[.int .i64 0,.int .i64 0,.int .i64 0] 95;rw[World.size_alloc] at hR0;go_enter Tryz.func55,Tryz.ntmps55
 go_wp2_with fail
 refine (iModuleOk_any _ _ ts fs _ _ _ hs (hm.mono hbA) (hm2.mono hbA)).mono ?_;rintro e w1 ⟨rfl,hb⟩;have hM1:=ab hM0 hb;have hR1:=ab hR0 hb;have hb1:Below w.heap.size w w1:=hbA.trans (hb.mono (by simp;omega));have y1:=aa hM1;have r1:=aa hR1;have r2:=am hR1;clear hbA hM0 hR0 hb;by_cases hok:modB ts fs=true
 ·have HO:Hid (modB ts fs=true):=hok;have FF:∀k (hk:k<fs.length),Fine fs fs[k].code:=fun k hk=>cy hok hk
  go_wp2_with (first | (at_make;refine wpList_make_full _ rfl _ _ 119 rfl w1.heap.size 148 i0 (.slice none 0 0) 1 Tryz.underlying119 hi hz0 hz1 _ _ _ _ fs.length rfl rfl rfl rfl (by rw[hz2];omega) (by unfold maxLen;omega) nL ?_;intro w2 hown hgrow;have hbm:Below w1.heap.size w1 w2:=gM.grown hgrow nL (by intro k hk;cases hk);have hM2:=ab hM1 hbm;have y2:=aa hM2))
  have hR2:=ab hR1 hbm;have hb2:=hb1.trans (hbm.mono hb1.size);obtain⟨cur0,hblk,hsz⟩:=aR hown;have hH0:Hs w2 w.heap.size w1.heap.size 0 fs:=⟨hb1.size,cur0,hblk,by omega,fun _ _ h=>absurd h (Nat.not_lt_zero _)⟩;clear hok r1 r2 y1 y2 hown hgrow hi hz0 hz1 hz2 hblk hsz hM1 hR1 hbm;have HZ1:Hid (w.heap.size<=w1.heap.size):=hb1.size;go_loopw [20] (fun i wr=>∃(k:Nat),k<=fs.length/\i=.int .i64 k/\Hid (∀q (hq:q<fs.length),q<k->fp fs fs[q].code fs[q].code.length)/\Hs wr w.heap.size w1.heap.size k fs/\wr.heap[w.heap.size]?=some (.cells #[.slice a1 ts.length c1,.slice a2 fs.length c2] 42 (0,0))/\wr.heap[w.heap.size+1]?=some (.cells #[.int .i64 0,.int .i64 0,.int .i64 0] 95 (0,0))/\Below w.heap.size w wr) (fun i _=>fs.length-(intOf i).toNat)
  case atStart=>exact⟨0,by omega,rfl,fun _ _ h=>absurd h (Nat.not_lt_zero _),hH0,hM2,hR2,hb2⟩
  case round=>
   obtain⟨k,hk,rfl,hcl,hHs,hM,hR,hb⟩:=hrel;obtain⟨wo,rfl⟩:∃wo,wo=wr:=⟨_,rfl⟩;clear hM2 hR2 hb2 hH0 hb1;by_cases hlt:k<fs.length
   ·have F:=FF k hlt;have hmost:=F.most;obtain⟨b,off,ca,cc,rfl,-,d1,d2,d3,d4⟩:=hm2 k hlt;have d1':=cell_later hb d1;have d2':=cell_later hb d2;have d3':=cell_later hb d3;clear d1 d2 d3;obtain⟨wx,hwx⟩:∃wx,wx=wo.alloc (.cells #[.int .i64 fs[k].params,.int .i64 fs[k].locals,.slice ca fs[k].code.length cc] 107):=⟨_,rfl⟩;have hkx:Below wo.heap.size wo wx:=by rw[hwx];exact gM.alloc nL _
    have hXx:wx.heap[wo.heap.size]?=some (.cells #[.int .i64 fs[k].params,.int .i64 fs[k].locals,.slice ca fs[k].code.length cc] 107 (0,0)):=by rw[hwx];exact ah _ _ _
    have hMx:=ab hM hkx;have hRx:=ab hR hkx;have hHx:=hHs.mono hkx;have hbx:Below w.heap.size w wx:=hb.trans (hkx.mono hb.size);have HWX:Hid (wx=wo.alloc (.cells #[.int .i64 fs[k].params,.int .i64 fs[k].locals,.slice ca fs[k].code.length cc] 107)):=hwx;have y0:=aa (al hM (.cells #[.int .i64 fs[k].params,.int .i64 fs[k].locals,.slice ca fs[k].code.length cc] 107));have z0:=aa (ah wo #[.int .i64 fs[k].params,.int .i64 fs[k].locals,.slice ca fs[k].code.length cc] 107);clear hwx hkx;go_wp2_with fail
    rw[<-HWX.out];refine (iHeights_any _ _ _ _ _ _ _ fs fs[k].code _ (hm2.mono hbx) (d4.mono hbx) F).mono ?_;rintro e w2 ⟨g,d,rfl,hg,hD,hH,k2⟩;have P:=hD.hts F;have hM2:=ab hMx k2;have hR2:=ab hRx k2;have hX2:=ab hXx k2;have hHs2:=hHx.mono k2;have hb2:Below w.heap.size w w2:=hbx.trans (k2.mono hbx.size);have hgw:w.heap.size<=g:=Nat.le_trans hbx.size hg;have hGk:=hHs2.put hlt hgw hD hH;obtain⟨vg,hvg⟩:=hHs2.cell hlt;have hfz:=hHs2.free k;have hne1:w.heap.size≠w1.heap.size:=by
     obtain⟨-,cur,h1,-⟩:=hHs2;intro e;rw[<-e,hM2] at h1;simp at h1
    have hne2:w.heap.size+1≠w1.heap.size:=by
     obtain⟨-,cur,h1,-⟩:=hHs2;intro e;rw[<-e,hR2] at h1;simp at h1
    have hne3:wo.heap.size≠w1.heap.size:=by
     obtain⟨-,cur,h1,-⟩:=hHs2;intro e;rw[<-e,hX2] at h1;simp at h1
    obtain⟨wy,hwy⟩:∃wy,wy=w2.setCell ⟨w1.heap.size,k,none⟩ (.slice (some ⟨g,0,none⟩) fs[k].code.length fs[k].code.length):=⟨_,rfl⟩;have hM3:wy.heap[w.heap.size]?=some (.cells #[.slice a1 ts.length c1,.slice (some ⟨b,off,none⟩) fs.length c2] 42 (0,0)):=by rw[hwy,Below.heap_setCell _ _ _ _ hne1];exact hM2
    have hR3:wy.heap[w.heap.size+1]?=some (.cells #[.int .i64 0,.int .i64 0,.int .i64 0] 95 (0,0)):=by rw[hwy,Below.heap_setCell _ _ _ _ hne2];exact hR2
    have hX3:wy.heap[wo.heap.size]?=some (.cells #[.int .i64 fs[k].params,.int .i64 fs[k].locals,.slice ca fs[k].code.length cc] 107 (0,0)):=by rw[hwy,Below.heap_setCell _ _ _ _ hne3];exact hX2
    have hH3:Ht wy g fs[k].code.length d:=by
     obtain⟨-,cur,h1,-⟩:=hHs2;rw[hwy];exact hH.other h1 _
    have hc3:wy.cell? ⟨w1.heap.size,k,none⟩=some (.slice (some ⟨g,0,none⟩) fs[k].code.length fs[k].code.length):=by
     obtain⟨-,cur,h1,h2,-⟩:=hHs2;rw[hwy,aa (ao h1 _)];exact az _ (by omega)
    have hb3:Below w.heap.size w wy:=by rw[hwy];exact hb2.setCell HZ1.out _
    rw[<-hwy] at hGk;have v2:=aa hX2;have v3:=aa hX3;clear hMx hRx hXx hbx k2 d1' d2' d3' hM hR hb y0 z0 hHs hHx hM2 hR2 hH hb2 hHs2 hne1 hne2;have HN3:Hid (wo.heap.size≠w1.heap.size):=hne3;clear hX2;go_wp2_with fail
    try rw[<-hwy]
    clear v2 v3 hvg hfz hwy hne3;go_loopw [35] (fun i ws=>∃(j:Nat),j<=fs[k].code.length/\i=.int .i64 j/\Hid (∀q,q<j->aI fs fs[k].code d q=0)/\Ht ws g fs[k].code.length d/\Hs ws w.heap.size w1.heap.size (k+1) fs/\ws.cell? ⟨w1.heap.size,k,none⟩=some (.slice (some ⟨g,0,none⟩) fs[k].code.length fs[k].code.length)/\ws.heap[w.heap.size]?=some (.cells #[.slice a1 ts.length c1,.slice (some ⟨b,off,none⟩) fs.length c2] 42 (0,0))/\ws.heap[w.heap.size+1]?=some (.cells #[.int .i64 0,.int .i64 0,.int .i64 0] 95 (0,0))/\ws.heap[wo.heap.size]?=some (.cells #[.int .i64 fs[k].params,.int .i64 fs[k].locals,.slice ca fs[k].code.length cc] 107 (0,0))/\Below w.heap.size w ws) (fun i _=>fs[k].code.length-(intOf i).toNat)
    case atStart=>exact⟨0,by omega,rfl,fun _ h=>absurd h (Nat.not_lt_zero _),hH3,hGk,hc3,hM3,hR3,hX3,hb3⟩
    case round=>
     obtain⟨j,hj,rfl,hno,hH4,hG4,hc4,hM4,hR4,hX4,hb4⟩:=hrel;obtain⟨ws,rfl⟩:∃ws,ws=wr:=⟨_,rfl⟩;clear hH3 hGk hc3 hM3 hR3 hX3 hb3;by_cases hlj:j<fs[k].code.length
     ·have hS:∀w',Below ws.heap.size ws w'->w'.cell? ⟨w.heap.size,0,none⟩=some (.slice a1 ts.length c1)/\w'.cell? ⟨w.heap.size,1,none⟩=some (.slice (some ⟨b,off,none⟩) fs.length c2)/\w'.cell? ⟨wo.heap.size,2,none⟩=some (.slice ca fs[k].code.length cc)/\w'.cell? ⟨w1.heap.size,k,none⟩=some (.slice (some ⟨g,0,none⟩) fs[k].code.length fs[k].code.length):=fun w' hb=>
       ⟨ckb hM4 hb rfl,ckb hM4 hb rfl,ckb hX4 hb rfl,cell_later hb hc4⟩
      have HS:Hid (∀w',Below ws.heap.size ws w'->w'.cell? ⟨w.heap.size,0,none⟩=some (.slice a1 ts.length c1)/\w'.cell? ⟨w.heap.size,1,none⟩=some (.slice (some ⟨b,off,none⟩) fs.length c2)/\w'.cell? ⟨wo.heap.size,2,none⟩=some (.slice ca fs[k].code.length cc)/\w'.cell? ⟨w1.heap.size,k,none⟩=some (.slice (some ⟨g,0,none⟩) fs[k].code.length fs[k].code.length)):=hS;obtain⟨j0,j1,j2,j3⟩:=hS ws gM;have q:Below ws.heap.size ws ws.drew:=gM.drew;have HB:Hid (Below w.heap.size w ws):=hb4;have HM:Hid (ws.heap[w.heap.size]?=some (.cells #[.slice a1 ts.length c1,.slice (some ⟨b,off,none⟩) fs.length c2] 42 (0,0))):=hM4;have HR:Hid (ws.heap[w.heap.size+1]?=some (.cells #[.int .i64 0,.int .i64 0,.int .i64 0] 95 (0,0))):=hR4;have HX:Hid (ws.heap[wo.heap.size]?=some (.cells #[.int .i64 fs[k].params,.int .i64 fs[k].locals,.slice ca fs[k].code.length cc] 107 (0,0))):=hX4;clear hS hb4 hM4 hR4 hX4 hc4;go_wp2
      go_region_held3 (fun w'=>w'.cell? ⟨w.heap.size,0,none⟩=some (.slice a1 ts.length c1)/\w'.cell? ⟨w.heap.size,1,none⟩=some (.slice (some ⟨b,off,none⟩) fs.length c2)/\w'.cell? ⟨wo.heap.size,2,none⟩=some (.slice ca fs[k].code.length cc)/\w'.cell? ⟨w1.heap.size,k,none⟩=some (.slice (some ⟨g,0,none⟩) fs[k].code.length fs[k].code.length))
       (first | exact⟨j0,j1,j2,j3⟩ | exact HS.out _ q)
       (first
        | (go_at_call 102;refine (trouble_any _ _ _ _ _ _ _ fs fs[k].code d g _ j _ (by exact hm2.mono (HB.out.trans (q.mono HB.out.size))) (by exact d4.mono (HB.out.trans (q.mono HB.out.size))) F P (by exact hH4.mono q) hlj).mono ?_;rintro e w5 ⟨rfl,kd⟩;have q:=q.trans (kd.mono q.size)))
      have hM5:=ab HM.out q;have hR5:=ab HR.out q;have hX5:=ab HX.out q;have hH5:=hH4.mono q;have hG5:=hG4.mono q;have hb5:Below w.heap.size w w5:=HB.out.trans (q.mono HB.out.size);have hc5:=(HS.out _ q).2.2.2;clear HM HR HX HB HS j0 j1 j2 j3 hH4 hG4 kd q;by_cases hz:aI fs fs[k].code d j=0
      ·have HZ:Hid (aI fs fs[k].code d j=0):=hz;go_wp2;go_roundw
       case rel=>exact⟨j+1,by omega,by go_num,fun q hq=>(by
        by_cases e:q=j
        ·subst e;exact HZ.out
        ·exact hno.out q (by omega)),hH5,hG5,hc5,hM5,hR5,hX5,hb5⟩
       case measure=>simp[intOf];omega
      ·have HZ:Hid (¬aI fs fs[k].code d j=0):=hz;have bz:(aI fs fs[k].code d j != 0)=true:=by simpa using hz
       have r4:=aa hR5;have q4:=am hR5;clear hz;go_wp2;have rr:=aa (bB (x:=(aI fs fs[k].code d j)) (y:=(k:Int)) (z:=(j:Int)) hR5);refine bodyPost_ret (v:=.tuple #[.slice none 0 0,.agg #[.int .i64 (aI fs fs[k].code d j),.int .i64 (k:Int),.int .i64 (j:Int)]]) (by simp[results,Tryz.results55,go_sem,rr]) rfl ⟨⟨_,(aI fs fs[k].code d j),(k:Int),(j:Int),⟨_,_,_,rfl⟩,rfl,.inr ⟨HO.out,.inr ⟨k,hlt,j,d,rfl,rfl,hlj,hD,rfl,HZ.out,cn hD hno.out,hcl.out⟩⟩,fun h=>absurd h HZ.out⟩,?_⟩;exact ((hb5.setCell (by simp) _).setCell (by simp) _).setCell (by simp) _
     ·have hjn:j=fs[k].code.length:=by omega
      subst hjn;go_wp2;go_roundw
      case rel=>exact⟨k+1,by omega,by go_num,fun q hq hqk=>(by
        by_cases e:q=k
        ·subst e;exact cn hD hno.out
        ·exact hcl.out q hq (by omega)),hG4,hM4,hR4,hb4⟩
      case measure=>simp[intOf];omega
   ·have hkn:k=fs.length:=by omega
    subst hkn;have r4:=aa hR;have q4:=am hR;go_wp2;have rr:=aa (bB (x:=0) (y:=0) (z:=0) hR);have hbz:Below (w.heap.size+2) wo (((wo.setCell ⟨w.heap.size+1,0,none⟩ (.int .i64 0)).setCell ⟨w.heap.size+1,1,none⟩ (.int .i64 0)).setCell ⟨w.heap.size+1,2,none⟩ (.int .i64 0))->True:=fun _=>trivial
    clear hbz;refine bodyPost_ret (v:=.tuple #[.slice (some ⟨w1.heap.size,0,none⟩) fs.length fs.length,.agg #[.int .i64 0,.int .i64 0,.int .i64 0]]) (by simp[results,Tryz.results55,go_sem,rr]) rfl ⟨⟨_,0,0,0,⟨_,_,_,rfl⟩,rfl,.inr ⟨HO.out,.inl ⟨rfl,rfl,rfl,fun q hq=>hcl.out q hq (by omega)⟩⟩,fun _=>⟨_,rfl,?_⟩⟩,?_⟩
    ·exact hHs.three hR
    ·exact ((hb.setCell (by simp) _).setCell (by simp) _).setCell (by simp) _
 ·have hok':modB ts fs=false:=by simpa using hok
  have HO:Hid (modB ts fs=false):=hok';clear hok;go_wp2;have rr:=aa (bB (x:=1) (y:=0) (z:=0) hR1);refine bodyPost_ret (v:=.tuple #[.slice none 0 0,.agg #[.int .i64 1,.int .i64 0,.int .i64 0]]) (by simp[results,Tryz.results55,go_sem,rr]) rfl ⟨⟨_,1,0,0,⟨_,_,_,rfl⟩,rfl,.inl ⟨HO.out,rfl,rfl,rfl⟩,fun h=>absurd h (by decide)⟩,?_⟩;exact ((hb1.setCell (by simp) _).setCell (by simp) _).setCell (by simp) _
theorem toStringS_made(a:Option Addr)(ss:List ByteArray)(cap:Nat)(w:World)(hn:ss.length<=1048576)(hm:aT w 0 a ss) :
  Calls Tryz.prog 20 #[.slice a ss.length cap] w fun e w'=>e=.returned (.slice (some ⟨w.heap.size,0,none⟩) ss.length ss.length)/\aT w' w.heap.size (some ⟨w.heap.size,0,none⟩) ss/\Below w.heap.size w w'/\de w' w.heap.size ss.length:=by
 obtain⟨i0,hi,hz0,hz1,hz2⟩:=info_parts info9;go_enter Tryz.func20,Tryz.ntmps20
 go_wp2_with (first | (at_make;refine wpList_make_full _ rfl _ _ 22 rfl w.heap.size 9 i0 (.string ByteArray.empty) 1 Tryz.underlying22 hi hz0 hz1 _ _ _ _ ss.length rfl rfl rfl rfl (by rw[hz2];omega) (by unfold maxLen;omega) nL ?_;intro w1 hown hgrow))
 obtain⟨cur0,hblk,hsz⟩:=aR hown;have hb0:Below w.heap.size w w1:=gM.grown hgrow nL (by intro k hk;cases hk);clear hown hgrow hi hz0 hz1 hz2;go_loopw [4] (fun i wr=>∃(k:Nat) (cur:Array Value),k<=ss.length/\i=.int .i64 k/\wr.heap[w.heap.size]?=some (.cells cur 9 (0,0))/\cur.size=ss.length*1/\(∀j (hj:j<ss.length),j<k->cur[j]?=some (.string ss[j]))/\Below w.heap.size w wr) (fun i _=>ss.length-(intOf i).toNat)
 case atStart=>exact⟨0,cur0,by omega,rfl,hblk,hsz,fun j _ h=>by omega,hb0⟩
 case round=>
  obtain⟨k,cur,hk,rfl,hblk,hsz,hdone,hb⟩:=hrel;by_cases hlt:k<ss.length
  ·obtain⟨b,off,rfl,-,c1⟩:=hm k hlt;have c1':=cell_later hb c1;clear c1;have hfz:=am hblk k;have hcl:wr.cell? ⟨w.heap.size,k,none⟩=some cur[k]:=by rw[aa hblk k];simp
   go_wp2;go_roundw
   case rel=>
    refine⟨k+1,cur.setIfInBounds k (.string ss[k]),by omega,by go_num,ao hblk _,by simpa using hsz,?_,hb.setCell nL _⟩;intro j hj hjk;by_cases e:j=k
    ·subst e;exact az _ (by omega)
    ·rw[ac _ e];exact hdone j hj (by omega)
   case measure=>simp[intOf];omega
  ·go_wp2;go_ret
   exact⟨rfl,fun j hj=>⟨w.heap.size,0,rfl,Nat.le_refl _,by rw[aa hblk,Nat.zero_add];exact hdone j hj (by omega)⟩,hb,⟨cur,hblk,by omega⟩⟩
open Classical in
theorem Says.eq{P:Prop}{e:Ending}(h:Says P e):e=.returned (.bool (pB P)):=by
 obtain⟨b,rfl,hb⟩:=h;rw[show b=pB P by rw[Bool.eq_iff_iff,hb];simp[pB]]
def fq (d:VmD):Prop:=(d.heap.length:Int)<=d.made/\d.made<=120/\d.out.length<=200/\0<=d.steps/\d.steps<=50000/\d.out.all bg=true
def Vals1 (nf:Nat)(d:VmD):Prop:=d.frames.all (cG nf d.heap.length)=true/\okB nf d.heap.length d.value=true
def recB (nf hl:Nat)(r:List Vl):Bool:=decide (r.length<=6) && bu r nf hl
def fB (nf:Nat)(rs:List (List Vl)):Prop:=rs.length<=120/\rs.all (recB nf rs.length)=true
theorem eb{fs:List Fn}{d:VmD}:(fq d/\bA fs d/\fB fs.length d.heap/\Vals1 fs.length d)↔(Room d/\bA fs d/\Vals fs.length d):=by
 unfold fq Room fB Vals1 Vals;have e:d.heap.all (recB fs.length d.heap.length)=true↔d.heap.all fewB=true/\d.heap.all (eN fs.length d.heap.length)=true:=by
  simp only[List.all_eq_true,recB,fewB,eN,Bool.and_eq_true]
  exact⟨fun q=>⟨fun x hx=>(q x hx).1,fun x hx=>(q x hx).2⟩,fun q x hx=>⟨q.1 x hx,q.2 x hx⟩⟩
 rw[e];constructor
 ·rintro⟨⟨h1,h2,h3,h4,h5,h6⟩,hf,⟨-,k1,k2⟩,v1,v2⟩;exact⟨⟨h1,h2,k1,h3,h4,h5,h6⟩,hf,v1,k2,v2⟩
 ·rintro⟨⟨h1,h2,k1,h3,h4,h5,h6⟩,hf,v1,k2,v2⟩;exact⟨⟨h1,h2,h3,h4,h5,h6⟩,hf,⟨by omega,k1,k2⟩,v1,v2⟩
theorem roomOk_any(fa ha oa:Option Addr)(fc hcp oc:Nat)(d:VmD)(w:World)(hx:bU d)(hm:VmAt w 0 fa ha oa d) :
  Calls Tryz.prog 56 #[.agg (aQ fa ha oa fc hcp oc d)] w fun e w'=>Says (fq d) e/\Below w.heap.size w w':=by
 have hbA:Below w.heap.size w (w.alloc (.cells #[.slice fa d.frames.length fc,.slice ha d.heap.length hcp,.int .i64 d.made,.slice oa d.out.length oc,.int .i64 d.status,.int .i64 d.trap,.int .i64 d.value.k,.int .i64 d.value.n,.string d.value.s,.int .i64 d.steps] 48)):=gM.alloc nL _;have hV0:=ah w #[.slice fa d.frames.length fc,.slice ha d.heap.length hcp,.int .i64 d.made,.slice oa d.out.length oc,.int .i64 d.status,.int .i64 d.trap,.int .i64 d.value.k,.int .i64 d.value.n,.string d.value.s,.int .i64 d.steps] 48;have hhl:=hx.heap;have hol:=hx.out;unfold aQ;by_cases h1:d.made<(d.heap.length:Int)
 ·go_enter Tryz.func56,Tryz.ntmps56
  go_wp2;go_ret
  exact⟨Says.no rfl (fun h=>by have:=h.1;omega),hbA⟩
 by_cases h2:120<d.made
 ·go_enter Tryz.func56,Tryz.ntmps56
  go_wp2;go_ret
  exact⟨Says.no rfl (fun h=>by have:=h.2.1;omega),hbA⟩
 go_enter Tryz.func56,Tryz.ntmps56
 have v1:=aa hV0;have H1:Hid ((d.heap.length:Int)<=d.made):=by show (d.heap.length:Int)<=d.made;omega
 have H2:Hid (d.made<=120):=by show d.made<=120;omega
 by_cases h3:200<d.out.length
 ·have h3I:(200:Int)<(d.out.length:Int):=by omega
  go_wp2;go_ret
  exact⟨Says.no rfl (fun h=>by have:=h.2.2.1;omega),hbA⟩
 have h3I:¬(200:Int)<(d.out.length:Int):=by omega
 by_cases h4:d.steps<0
 ·go_wp2;go_ret
  exact⟨Says.no rfl (fun h=>by have:=h.2.2.2.1;omega),hbA⟩
 by_cases h5:50000<d.steps
 ·go_wp2;go_ret
  exact⟨Says.no rfl (fun h=>by have:=h.2.2.2.2.1;omega),hbA⟩
 go_wp2_with fail
 refine (hasBadT_any _ d.out _ _ hx.out hx.text (hm.out.mono hbA)).mono ?_;rintro e w1 ⟨rfl,hb1⟩;clear v1;go_wp2;go_ret
 refine⟨⟨_,rfl,?_⟩,hbA.trans (hb1.mono hbA.size)⟩;constructor
 ·intro h;exact⟨H1.out,H2.out,by omega,by omega,by omega,by simpa using h⟩
 ·intro h;simpa using h.2.2.2.2.2
theorem litR_any(ca:Option Addr)(cc:Nat)(r:List Vl)(a1 a2 ha:Option Addr)(nt c1 nf c2 hl hcp Mb Rb:Nat)(w:World)(hs:aK r)(hm:aO w 0 ca r)(hM:w.heap[Mb]?=some (.cells #[.slice a1 nt c1,.slice a2 nf c2] 42 (0,0)))(hR:w.heap[Rb]?=some (.cells #[.slice ha hl hcp] 45 (0,0))) :
  Calls Tryz.prog 108 #[.agg #[.slice ca r.length cc],.pointer (some ⟨Mb,0,none⟩),.pointer (some ⟨Rb,0,none⟩)] w fun e w'=>e=.returned (.bool (!recB nf hl r))/\Below w.heap.size w w':=by
 have hbA:Below w.heap.size w (w.alloc (.cells #[.slice ca r.length cc] 158)):=gM.alloc nL _;have x0:=aa (ah w #[.slice ca r.length cc] 158);have x1:=aa (al hM (.cells #[.slice ca r.length cc] 158));have x2:=aa (al hR (.cells #[.slice ca r.length cc] 158));have hrl:=hs.1;by_cases h6:6<r.length
 ·have g6:(6:Int)<(r.length:Int):=by omega
  have HO:Hid (6<r.length):=h6;clear h6;go_enter Tryz.func108,Tryz.ntmps108
  go_wp2;go_ret
  exact⟨aj (by unfold recB;rw[show decide (r.length<=6)=false by have:=HO.out;simpa using this];rfl),hbA⟩
 ·have g6:¬(6:Int)<(r.length:Int):=by omega
  have HO:Hid (¬6<r.length):=h6;clear h6;go_enter Tryz.func108,Tryz.ntmps108
  go_wp2_with fail
  refine (eo _ _ _ _ _ _ _ _ _ _ _ hs (hm.mono hbA)).mono ?_;rintro e w1 ⟨rfl,hb⟩;clear x0 x1 x2;go_wp2;go_ret
  exact⟨aj (by unfold recB;rw[show decide (r.length<=6)=true by have:=HO.out;simpa using this];rfl),hbA.trans (hb.mono hbA.size)⟩
theorem firstBadR_any(a:Option Addr)(rs:List (List Vl))(cap:Nat)(a1 a2 ha:Option Addr)(nt c1 nf c2 hl hcp Mb Rb:Nat)(w:World)(hn:rs.length<=1048576)(hc:∀r∈rs,aK r)(hm:cE w 0 a rs)(hM:w.heap[Mb]?=some (.cells #[.slice a1 nt c1,.slice a2 nf c2] 42 (0,0)))(hR:w.heap[Rb]?=some (.cells #[.slice ha hl hcp] 45 (0,0))) :
  Calls Tryz.prog 152 #[.slice a rs.length cap,.func (.func 108) #[] #[.pointer (some ⟨Mb,0,none⟩),.pointer (some ⟨Rb,0,none⟩)]] w fun e w'=>fT (rs.all (recB nf hl)) e/\Below w.heap.size w w':=by
 go_enter Tryz.func152,Tryz.ntmps152
 go_wp2;go_loopw [8] (fun i wr=>∃(k:Nat),k<=rs.length/\i=.int .i64 k/\Hid ((rs.take k).all (recB nf hl)=true)/\Below w.heap.size w wr) (fun i _=>rs.length-(intOf i).toNat)
 case atStart=>exact⟨0,by omega,rfl,rfl,Below.refl _ _⟩
 case round=>
  obtain⟨k,hk,rfl,hall,hb⟩:=hrel;by_cases hlt:k<rs.length
  ·obtain⟨b,off,ca,cc,rfl,-,d1,d2⟩:=hm k hlt;have d1':=cell_later hb d1;clear d1;have hck:=hc rs[k] (n_l hlt);have hMk:=ab hM hb;have hRk:=ab hR hb;go_wp2_with fail
   refine (litR_any ca cc rs[k] a1 a2 ha nt c1 nf c2 hl hcp Mb Rb _ hck (d2.mono hb) hMk hRk).mono ?_;rintro e w1 ⟨rfl,hb1⟩;have hB:=hb.trans (hb1.mono hb.size);clear d1' hMk hRk hb1;by_cases ho:recB nf hl rs[k]=true
   ·have HO:Hid (recB nf hl rs[k]=true):=ho;go_wp2;go_roundw
    case rel=>exact⟨k+1,by omega,by go_num,bE hlt hall.out HO.out,hB⟩
    case measure=>simp[intOf];omega
   ·have ho':recB nf hl rs[k]=false:=by simpa using ho
    have HO:Hid (recB nf hl rs[k]=false):=ho';clear ho;go_wp2;go_ret
    exact⟨⟨(k:Int),rfl,by rw[show rs.all (recB nf hl)=false from cd hlt HO.out];simp⟩,hB⟩
  ·go_wp2;go_ret
   exact⟨⟨-1,rfl,by rw[show rs.all (recB nf hl)=true from bL (by omega) hall.out];simp⟩,hb⟩
theorem hasBadR_any(a:Option Addr)(rs:List (List Vl))(cap:Nat)(a1 a2 ha:Option Addr)(nt c1 nf c2 hl hcp Mb Rb:Nat)(w:World)(hn:rs.length<=1048576)(hc:∀r∈rs,aK r)(hm:cE w 0 a rs)(hM:w.heap[Mb]?=some (.cells #[.slice a1 nt c1,.slice a2 nf c2] 42 (0,0)))(hR:w.heap[Rb]?=some (.cells #[.slice ha hl hcp] 45 (0,0))) :
  Calls Tryz.prog 107 #[.slice a rs.length cap,.func (.func 108) #[] #[.pointer (some ⟨Mb,0,none⟩),.pointer (some ⟨Rb,0,none⟩)]] w fun e w'=>e=.returned (.bool (!rs.all (recB nf hl)))/\Below w.heap.size w w':=by
 go_enter Tryz.func107,Tryz.ntmps107
 go_wp2_with fail
 refine (firstBadR_any a rs cap a1 a2 ha nt c1 nf c2 hl hcp Mb Rb _ hn hc hm hM hR).mono ?_;rintro e w1 ⟨⟨i,rfl,hi⟩,hb⟩;have HI:Hid (0<=i↔rs.all (recB nf hl)=false):=hi;clear hi;go_wp2;go_ret
 exact⟨aj (by rw[Bool.eq_iff_iff];simpa using HI.out),hb⟩
theorem heapOk_any(a1 a2:Option Addr)(nt c1 nf c2:Nat)(ha:Option Addr)(rs:List (List Vl))(hcp:Nat)(w:World)(hn:rs.length<=1048576)(hc:∀r∈rs,aK r)(hm:cE w 0 ha rs) :
  Calls Tryz.prog 58 #[.agg #[.slice a1 nt c1,.slice a2 nf c2],.slice ha rs.length hcp] w fun e w'=>e=.returned (.bool (pB (fB nf rs)))/\Below w.heap.size w w':=by
 have hbA:Below w.heap.size w ((w.alloc (.cells #[.slice a1 nt c1,.slice a2 nf c2] 42)).alloc (.cells #[.slice ha rs.length hcp] 45)):=(gM.alloc nL _).alloc (by simp) _;have hM0:=al (ah w #[.slice a1 nt c1,.slice a2 nf c2] 42) (.cells #[.slice ha rs.length hcp] 45);have hR0:=ax (w.alloc (.cells #[.slice a1 nt c1,.slice a2 nf c2] 42)) #[.slice ha rs.length hcp] 45 (w.heap.size+1) (by simp);have r0:=aa hR0;have hmf:∀(fn:Go.Fn) (first cap:Array Value) (w:World),(Instr.makeFunc fn first cap).run Tryz.prog w=.ok (.func fn first cap) w:=fun _ _ _ _=>rfl
 by_cases h:rs.length<=120
 case neg=>
  have g:¬(rs.length:Int)<=120:=by omega
  have HN:Hid (¬fB nf rs):=fun q=>h q.1
  clear h;go_enter Tryz.func58,Tryz.ntmps58
  go_wp2;go_ret
  exact⟨aj (aw HN.out).symm,hbA⟩
 have g:(rs.length:Int)<=120:=by omega
 have H:Hid (rs.length<=120):=h;clear h;go_enter Tryz.func58,Tryz.ntmps58
 go_wp2_with fail
 refine (hasBadR_any ha rs hcp a1 a2 ha nt c1 nf c2 rs.length hcp _ _ _ hn hc (hm.mono hbA) hM0 hR0).mono ?_;rintro e w1 ⟨rfl,hb⟩;clear r0;go_wp2;go_ret
 exact⟨bx (by first | exact⟨fun q=>⟨H.out,q⟩,fun q=>q.2⟩ | (rw[Bool.not_not];exact⟨fun q=>⟨H.out,q⟩,fun q=>q.2⟩)),hbA.trans (hb.mono hbA.size)⟩
theorem valuesOk_any(a1 a2:Option Addr)(nt c1 nf c2:Nat)(fa ha oa:Option Addr)(fc hcp oc:Nat)(d:VmD)(w:World)(hx:bU d)(hm:VmAt w 0 fa ha oa d) :
  Calls Tryz.prog 59 #[.agg #[.slice a1 nt c1,.slice a2 nf c2],.agg (aQ fa ha oa fc hcp oc d)] w fun e w'=>Says (Vals1 nf d) e/\Below w.heap.size w w':=by
 have hbA:Below w.heap.size w ((w.alloc (.cells #[.slice a1 nt c1,.slice a2 nf c2] 42)).alloc (.cells #[.slice fa d.frames.length fc,.slice ha d.heap.length hcp,.int .i64 d.made,.slice oa d.out.length oc,.int .i64 d.status,.int .i64 d.trap,.int .i64 d.value.k,.int .i64 d.value.n,.string d.value.s,.int .i64 d.steps] 48)):=(gM.alloc nL _).alloc (by simp) _;have hM0:=al (ah w #[.slice a1 nt c1,.slice a2 nf c2] 42) (.cells #[.slice fa d.frames.length fc,.slice ha d.heap.length hcp,.int .i64 d.made,.slice oa d.out.length oc,.int .i64 d.status,.int .i64 d.trap,.int .i64 d.value.k,.int .i64 d.value.n,.string d.value.s,.int .i64 d.steps] 48);have hV0:=ax (w.alloc (.cells #[.slice a1 nt c1,.slice a2 nf c2] 42)) #[.slice fa d.frames.length fc,.slice ha d.heap.length hcp,.int .i64 d.made,.slice oa d.out.length oc,.int .i64 d.status,.int .i64 d.trap,.int .i64 d.value.k,.int .i64 d.value.n,.string d.value.s,.int .i64 d.steps] 48 (w.heap.size+1) (by simp);have hhl:=hx.heap;have hfl:=hx.frames;unfold aQ;go_enter Tryz.func59,Tryz.ntmps59
 go_wp2;go_loopw [14] (fun i wr=>∃(k:Nat),k<=d.frames.length/\i=.int .i64 k/\Hid ((d.frames.take k).all (cG nf d.heap.length)=true)/\wr.heap[w.heap.size]?=some (.cells #[.slice a1 nt c1,.slice a2 nf c2] 42 (0,0))/\wr.heap[w.heap.size+1]?=some (.cells #[.slice fa d.frames.length fc,.slice ha d.heap.length hcp,.int .i64 d.made,.slice oa d.out.length oc,.int .i64 d.status,.int .i64 d.trap,.int .i64 d.value.k,.int .i64 d.value.n,.string d.value.s,.int .i64 d.steps] 48 (0,0))/\Below w.heap.size w wr) (fun i _=>d.frames.length-(intOf i).toNat)
 case atStart=>exact⟨0,by omega,rfl,rfl,hM0,hV0,hbA⟩
 case round=>
  obtain⟨k,hk,rfl,hall,hM,hV,hb⟩:=hrel;clear hV0 hbA hM0;by_cases hlt:k<d.frames.length
  ·obtain⟨b,off,la,lc,sa,sc,rfl,-,e1,e2,e3,e4,e5,e6⟩:=hm.frs k hlt;have e1':=cell_later hb e1;have e2':=cell_later hb e2;have e3':=cell_later hb e3;have e4':=cell_later hb e4;clear e1 e2 e3 e4;have hsl:=hx.locals _ (n_l hlt);have hss:=hx.stack _ (n_l hlt);have hMn:=al hM (.cells #[.int .i64 d.frames[k].fn,.int .i64 d.frames[k].pc,.slice la d.frames[k].locals.length lc,.slice sa d.frames[k].stack.length sc] 163);have hVn:=al hV (.cells #[.int .i64 d.frames[k].fn,.int .i64 d.frames[k].pc,.slice la d.frames[k].locals.length lc,.slice sa d.frames[k].stack.length sc] 163);have hXn:=ah wr #[.int .i64 d.frames[k].fn,.int .i64 d.frames[k].pc,.slice la d.frames[k].locals.length lc,.slice sa d.frames[k].stack.length sc] 163;have hBn:=hb.alloc hb.size (.cells #[.int .i64 d.frames[k].fn,.int .i64 d.frames[k].pc,.slice la d.frames[k].locals.length lc,.slice sa d.frames[k].stack.length sc] 163);have m1:=aa hMn;go_wp2_with fail
   refine (eo _ _ _ _ _ _ _ _ _ _ _ hsl (e5.mono hBn)).mono ?_;rintro e w1 ⟨rfl,hb1⟩;have hM1:=ab hMn hb1;have hV1:=ab hVn hb1;have hX1:=ab hXn hb1;have hB1:=hBn.trans (hb1.mono hBn.size);clear e1' e2' e3' e4' hMn hVn hXn hBn m1 hb1 hM hV hb;by_cases ho:bu d.frames[k].locals nf d.heap.length=true
   case neg=>
    have ho':bu d.frames[k].locals nf d.heap.length=false:=by simpa using ho
    have HO:Hid (bu d.frames[k].locals nf d.heap.length=false):=ho';clear ho;go_wp2;go_ret
    exact⟨Says.no rfl (fun h=>by
     have h1:=h.1;rw[cd hlt (show cG nf d.heap.length d.frames[k]=false by unfold cG;rw[HO.out];rfl)] at h1
     cases h1),hB1⟩
   have HO:Hid (bu d.frames[k].locals nf d.heap.length=true):=ho;have m1:=aa hM1;have x1:=aa hX1;go_wp2_with fail
   refine (eo _ _ _ _ _ _ _ _ _ _ _ hss (e6.mono hB1)).mono ?_;rintro e w2 ⟨rfl,hb2⟩;have hM2:=ab hM1 hb2;have hV2:=ab hV1 hb2;have hB2:=hB1.trans (hb2.mono hB1.size);clear m1 x1 hM1 hV1 hX1 hB1 hb2 ho;by_cases hu:bu d.frames[k].stack nf d.heap.length=true
   ·have HU:Hid (bu d.frames[k].stack nf d.heap.length=true):=hu;go_wp2;go_roundw
    case rel=>exact⟨k+1,by omega,by go_num,bE hlt hall.out (by unfold cG;rw[HO.out,HU.out];rfl),hM2,hV2,hB2⟩
    case measure=>simp[intOf];omega
   ·have hu':bu d.frames[k].stack nf d.heap.length=false:=by simpa using hu
    have HU:Hid (bu d.frames[k].stack nf d.heap.length=false):=hu';clear hu;go_wp2;go_ret
    exact⟨Says.no rfl (fun h=>by
     have h1:=h.1;rw[cd hlt (show cG nf d.heap.length d.frames[k]=false by unfold cG;rw[HU.out,Bool.and_false])] at h1
     cases h1),hB2⟩
  ·have HF:Hid (d.frames.all (cG nf d.heap.length)=true):=bL (by omega) hall.out;have v2:=aa hV;have m2:=aa hM;go_wp2_with fail
   refine (er _ _ _ _ _ _ _ _ _ _ _ hx.value).mono ?_;rintro e w1 ⟨rfl,hb1⟩;clear v2 m2;go_wp2;go_ret
   exact⟨⟨_,rfl,⟨fun h=>⟨HF.out,h⟩,fun h=>h.2⟩⟩,hb.trans (hb1.mono hb.size)⟩
end Go.Proofs.YtdlkbbgmjilccaaGreatDoor
namespace Go.Proofs.YtdlkbbgmjilccaaGreatDoor
theorem joined_of{P:Program}{f:FuncId}{fn:Func}{s:ChangeSpec}{c:OpenClaim}
  (h0:(c.wf (OpenSpec.ofChange s))=true)
  (h1:(laidOutB P)=true)
  (h2:(mapsRowed P)=true)
  (h3:(fn.params.all (P.readableRec ·))=true)
  (h4:(namedTie P c.named s.vars)=true)
  (h5:((c.stops == []))=true)
  (h6:((P.stops == []))=true)
  (h7:((c.knobs == []))=true)
  (h8:((P.stopKnobs == []))=true)
  (h9:((c.inPlace == P.inPlace f))=true)
  (h10:((c.unfollowed == P.unfollowed f))=true)
  (h11:((c.recurses == P.recurses f))=true)
  (h12:((c.named == P.varsNamed f))=true)
  (h13:((c.maps == (fn.params.toList++s.plain.varTypes P).any (P.mapsRec ·)))=true)
  (h14:((c.ifaces == (fn.params.toList++s.plain.varTypes P).any (P.ifacesRec ·)))=true)
  (h15:((c.mapsOut == P.mapsAmong fn.resultTypes.toList))=true)
  (h16:((c.loops == (fn.params.toList++s.plain.varTypes P).any (P.loopsFrom ·)))=true)
  (h17:((c.wideKeys == (fn.params.toList++s.plain.varTypes P++fn.resultTypes.toList).any (P.wideKeysFrom ·)))=true)
  (h18:(s.vars.all (P.varReadable ·))=true)
  (h19:(fn.resultTypes.all (fun t=>P.readableRec t && decide (t<P.types.size)))=true)
  (h20:((c.ifacesOut == fn.resultTypes.toList.any (P.ifacesRec ·)))=true)
  (h21:((c.loopsOut == fn.resultTypes.toList.any (P.loopsFrom ·)))=true)
  (h22:((c.plainKeys == P.plainKeys))=true)
  (h23:(c.shortTexts.isNone)=true)
  (h24:(P.stopsHeard)=true)
  (h25:(P.mayEnter)=true)
  (h26:((c.lifted == P.liftsFinal))=true)
  (h27:((P.make == some c.make))=true)
  (h28:c.kinds=[]) (h28b:c.domain.isEmpty=true)
  (h29:((c.pinned == c.pinnedBy))=true)
  (h30:((c.veiled == (fn.params.toList++s.plain.varTypes P++fn.resultTypes.toList).any (P.veiledRec ·)))=true)
  (h31:(c.veiledFits P fn.params.toList (fn.params.toList++s.plain.varTypes P++fn.resultTypes.toList))=true):joinedFacts P f fn s c=true:=by
 unfold joinedFacts;rw[h0,h1,h2,h3,h4,h5,h6,h7,h8,h9,h10,h11,h12,h13,h14,h15,h16,h17,h18,h19,h20,h21,h22,h23,h24,h25,h26,h27,h29,h30,h31,h28,h28b];rfl
end Go.Proofs.YtdlkbbgmjilccaaGreatDoor
