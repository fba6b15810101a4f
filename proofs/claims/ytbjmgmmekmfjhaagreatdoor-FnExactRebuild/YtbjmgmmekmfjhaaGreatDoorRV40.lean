/- RV40 -/
import Derived.Test.YtbjmgmmekmfjhaaGreatDoorRV30
set_option maxHeartbeats 32000000
set_option maxRecDepth 100000
namespace Go.Proofs.YtbjmgmmekmfjhaaGreatDoor
open Go.RowKit
def FrO (w:World)(B:Nat)(xs:List Value)(fr:List Fr):Prop:=xs.length=fr.length*4/\∀j (_:j<fr.length),∃v1 v2,xs[j*4]?=some (.int .i64 fr[j].fn)/\xs[j*4+1]?=some (.int .i64 fr[j].pc)/\xs[j*4+2]?=some v1/\xs[j*4+3]?=some v2 /\
 w.ownsRow B 80 3 v1 fr[j].locals.length (flat fr[j].locals)/\w.ownsRow B 80 3 v2 fr[j].stack.length (flat fr[j].stack)
theorem FrO.kept{w w':World}{B:Nat}{xs:List Value}{fr:List Fr}(h:FrO w B xs fr)(hk:∀v n (l:List Vl),w.ownsRow B 80 3 v n (flat l)->w'.ownsRow B 80 3 v n (flat l)):FrO w' B xs fr:=⟨h.1,fun j hj=>by
 obtain⟨v1,v2,a0,a1,a2,a3,h1,h2⟩:=h.2 j hj;exact⟨v1,v2,a0,a1,a2,a3,hk _ _ _ h1,hk _ _ _ h2⟩⟩
theorem di{w:World}{B e size n:Nat}{v:Value}{xs:List Value}(h:w.ownsRow B e size v n xs):∃a c,v=.slice a n c:=by
 rcases h.2 with ⟨e,h0⟩ | ⟨g,cap,cur,e,-⟩
 ·exact⟨none,0,by rw[e,h0]⟩
 ·exact⟨_,_,e⟩
theorem FrO.low{w:World}{B B':Nat}{xs:List Value}{fr:List Fr}(h:FrO w B xs fr)(hl:B'<=B):FrO w B' xs fr:=⟨h.1,fun j hj=>by
 obtain⟨v1,v2,a0,a1,a2,a3,h1,h2⟩:=h.2 j hj;exact⟨v1,v2,a0,a1,a2,a3,b9 h1 hl,b9 h2 hl⟩⟩
theorem FrO.next{w:World}{B:Nat}{xs:List Value}{fr:List Fr}{v1 v2:Value}{f:Fr}(h:FrO w B xs fr)(h1:w.ownsRow B 80 3 v1 f.locals.length (flat f.locals))(h2:w.ownsRow B 80 3 v2 f.stack.length (flat f.stack)):FrO w B (xs++[.int .i64 f.fn,.int .i64 f.pc,v1,v2]) (fr++[f]):=by
 refine⟨by simp[h.1];omega,fun j hj=>?_⟩;by_cases hj':j<fr.length
 ·obtain⟨u1,u2,a0,a1,a2,a3,k1,k2⟩:=h.2 j hj';have L:=h.1;refine⟨u1,u2,?_,?_,?_,?_,?_,?_⟩
  ·rw[List.getElem?_append_left (by omega),List.getElem_append_left hj'];exact a0
  ·rw[List.getElem?_append_left (by omega),List.getElem_append_left hj'];exact a1
  ·rw[List.getElem?_append_left (by omega)];exact a2
  ·rw[List.getElem?_append_left (by omega)];exact a3
  ·rw[List.getElem_append_left hj'];exact k1
  ·rw[List.getElem_append_left hj'];exact k2
 ·have e:j=fr.length:=by simp at hj;omega
  subst e;have L:=h.1;have e9:(fr++[f])[fr.length]'(by simp)=f:=by rw[List.getElem_append_right n_l];simp
  have e0:fr.length*4-xs.length=0:=by omega
  have e1:fr.length*4+1-xs.length=1:=by omega
  have e2:fr.length*4+2-xs.length=2:=by omega
  have e3:fr.length*4+3-xs.length=3:=by omega
  refine⟨v1,v2,?_,?_,?_,?_,?_,?_⟩
  ·rw[List.getElem?_append_right (by omega),e9,e0];rfl
  ·rw[List.getElem?_append_right (by omega),e9,e1];rfl
  ·rw[List.getElem?_append_right (by omega),e2];rfl
  ·rw[List.getElem?_append_right (by omega),e3];rfl
  ·rw[e9];exact h1
  ·rw[e9];exact h2
theorem FrO.at{w:World}{B:Nat}{q:Value}{xs:List Value}{fr:List Fr}(h:FrO w B xs fr)(ho:w.ownsRow B 136 4 q fr.length xs):∃a cap,q=.slice a fr.length cap/\fJ w B a fr:=by
 rcases ho.2 with ⟨e,h0⟩ | ⟨g,cap,cur,e,hg,hh,-,-,-,htk⟩
 ·exact⟨none,0,by rw[e,h0],fun j hj=>by omega⟩
 ·refine⟨_,cap,e,fun j hj=>?_⟩;obtain⟨v1,v2,a0,a1,a2,a3,h1,h2⟩:=h.2 j hj;obtain⟨b1,c1,rfl,hv1⟩:=fW h1 rfl;obtain⟨b2,c2,rfl,hv2⟩:=fW h2 rfl;have K:∀i v',xs[i]?=some v'->i<fr.length*4->w.cell? ⟨g,0+i,none⟩=some v':=fun i v' hi hl=>by
   rw[<-htk,List.getElem?_take,if_pos hl,Array.getElem?_toList] at hi;rw[ae hh,Nat.zero_add];exact hi
  exact⟨g,0,b1,c1,b2,c2,rfl,hg,K _ _ a0 (by omega),K _ _ a1 (by omega),K _ _ a2 (by omega),K _ _ a3 (by omega),hv1,hv2⟩
def gg (vals:List Vl)(nums:List Int)(x:Ex)(hs:List (List Vl))(w:World)(e:Ending)(w':World):Prop:=
 ∃J q1 q2 xs ys,e=.returned (.tuple #[q1,q2])/\Built vals nums hs.length x.recs (metFs [] x.frames) J /\
  ((hs.length+J<=120/\w'.ownsRow w.heap.size 136 4 q1 x.frames.length xs/\FrO w' w.heap.size xs (bx vals nums hs.length [] x.frames)/\w'.ownsRow w.heap.size 125 1 q2 (hs.length+J) ys/\RecO w' w.heap.size ys (hs++(aS vals nums hs.length x.recs (metFs [] x.frames) J).2)) \/
   (120<hs.length+J/\w'.ownsRow w.heap.size 136 4 q1 0 []/\w'.ownsRow w.heap.size 125 1 q2 0 []))
theorem sL11_any(oa ea va na ha:Option Addr)(oc ec vc nc hcp:Nat)(D:aR)(kx:Nat)(vals:List Vl)(nums:List Int)(hs:List (List Vl))(w:World)(hkx:kx<D.exits.length)(_hd:a8 D)(hf:br w 0 oa ea D)(hfit:dG vals.length nums.length D.exits[kx])
  (hva:aQ w 0 va vals)(hna:a9 w 0 na nums)(hH:RB w 0 ha hs)(hv:aE vals)(hnn:nums.length<=1048576)(hhl:hs.length<=1048576)(hhc:∀r∈hs,aE r) :
  Calls Tryz.prog 75 #[.agg (aK oa ea oc ec D),.int .i64 kx,.slice va vals.length vc,.slice na nums.length nc,.slice ha hs.length hcp] w fun e w'=>gg vals nums D.exits[kx] hs w e w'/\Below w.heap.size w w':=by
 obtain⟨i0,hi,hz0,hz1,hz2⟩:=info_parts info3;obtain⟨i6,hi6,hx0,hx1,hx2⟩:=info_parts info136;obtain⟨i5,hi5,hy0,hy1,hy2⟩:=info_parts info125;obtain⟨be,oe,fa,fc,ra,rc,hea,-,e0,e1,e2,e3,e4,e5,e6,hEF,hER⟩:=hf.exits kx hkx;obtain⟨x,hx⟩:∃x,x=D.exits[kx]:=⟨_,rfl⟩;rw[<-hx] at e0 e1 e2 e3 e4 e5 e6 hEF hER hfit ⊢;clear hx;have hnv:=hv.1;have hrl:x.recs.length<=1048576:=by have:=hfit.rn;omega
 have hkI:(kx:Int)<(D.exits.length:Int):=by omega
 unfold aK;obtain⟨wA,hwA⟩:∃wA,wA=w.alloc (.cells #[.int .i64 D.fn,.int .i64 D.entry,.int .i64 D.vals,.int .i64 D.nums,.slice oa D.ops.length oc,.slice ea D.exits.length ec] 41):=⟨_,rfl⟩;have hbA:Below w.heap.size w wA:=by rw[hwA];exact b_r.alloc n_l _
 have hF0:wA.heap[w.heap.size]?=some (.cells #[.int .i64 D.fn,.int .i64 D.entry,.int .i64 D.vals,.int .i64 D.nums,.slice oa D.ops.length oc,.slice ea D.exits.length ec] 41 (0,0)):=by rw[hwA];exact al _ _ _
 have hsA:wA.heap.size=w.heap.size+1:=by rw[hwA];simp
 have f0:=ae hF0;subst hea;have e0':=cell_later hbA e0;have e1':=cell_later hbA e1;have e2':=cell_later hbA e2;have e3':=cell_later hbA e3;have e4':=cell_later hbA e4;have e5':=cell_later hbA e5;have e6':=cell_later hbA e6;clear e0 e1 e2 e3 e4 e5 e6;go_enter Tryz.func75,Tryz.ntmps75
 go_upto_region 1 with fail
 rw[<-hwA];clear hwA;go_upto_region 2 with fail
 obtain⟨wK,hwK⟩:∃wK,wK=wA.alloc (.cells #[.int .i64 x.kind,.int .i64 x.spec.f,.int .i64 x.spec.pc,.int .i64 x.spec.seen,.int .i64 x.spec.target,.slice fa x.frames.length fc,.slice ra x.recs.length rc,.slice va vals.length vc,.slice na nums.length nc,.int .i64 (hs.length:Nat),.slice none 0 0,.slice none 0 0] 196):=⟨_,rfl⟩;rw[<-hwK];have hbK:Below w.heap.size w wK:=by rw[hwK];exact hbA.alloc hbA.size _
 have hBK:wK.heap[w.heap.size+1]?=some (.cells #[.int .i64 x.kind,.int .i64 x.spec.f,.int .i64 x.spec.pc,.int .i64 x.spec.seen,.int .i64 x.spec.target,.slice fa x.frames.length fc,.slice ra x.recs.length rc,.slice va vals.length vc,.slice na nums.length nc,.int .i64 (hs.length:Nat),.slice none 0 0,.slice none 0 0] 196 (0,0)):=by rw[hwK];exact aA _ _ _ _ (by omega)
 clear hwK f0 e0' e1' e2' e3' e4' e5' e6';go_wp2_with fail
 go_loopw [13] (fun i wr=>∃(k:Nat) (av:Value),k<=x.recs.length/\i=.int .i64 k/\wr.heap[w.heap.size+1]?=some (.cells #[.int .i64 x.kind,.int .i64 x.spec.f,.int .i64 x.spec.pc,.int .i64 x.spec.seen,.int .i64 x.spec.target,.slice fa x.frames.length fc,.slice ra x.recs.length rc,.slice va vals.length vc,.slice na nums.length nc,.int .i64 (hs.length:Nat),av,.slice none 0 0] 196 (0,0))/\wr.ownsRow (w.heap.size+1+1) 3 1 av k (atL hs.length k [])/\Below w.heap.size w wr) (fun i _=>x.recs.length-(intOf i).toNat)
 case atStart=>exact⟨0,.slice none 0 0,by omega,rfl,hBK,World.ownsRow_nil _ _ _ _,hbK⟩
 case round=>
  obtain⟨k,av,hk,rfl,hBl,hown,hb⟩:=hrel;have kc:=ae hBl;by_cases hlt:k<x.recs.length
  ·obtain⟨aa,ac,rfl⟩:∃a c,av=.slice a k c:=by
    rcases hown.2 with ⟨e,h0⟩ | ⟨b,cp,cu,e,-⟩
    ·exact⟨none,0,by rw[e,h0]⟩
    ·exact⟨_,cp,e⟩
   have hlt2:=ay hBl;have kc':=ae (au hBl (.cells #[.int .i64 (-1)] 3));go_wp2_with (at_builtin;refine wpList_append_lies _ rfl _ _ 50 rfl (w.heap.size+1+1) 3 i0 (.int .i64 0) 1 8 Tryz.underlying50 hi hz0 hz1 hz2 rfl (by decide) _ _ _ rfl (World.ownsRow.alloc hown _) ⟨wr.heap.size,0,none⟩ 1 1 [.int .i64 (-1)] rfl rfl (World.news_of_block (cs:=#[.int .i64 (-1)]) (t:=3) (fr:=(0,0)) (heap_alloc_new wr _)) (by simp[Value.oneCell']) (by decide) (by unfold maxLen;omega) (by omega) (by simp;omega) _ rfl ?_;intro g3 cap3 w3 hown3 hgrow3 hat3 hlt3;have hK3:=eg (World.ownsRow.alloc hown _) (by omega) (au hBl _) hgrow3;have n3:=ae hK3;have f3:=aq hK3)
   have HT:Hid ((w3.setCell ⟨w.heap.size+1,10,none⟩ (.slice (some ⟨g3,0,none⟩) (k+1) cap3)).heap[w.heap.size+1]?=some (.cells #[.int .i64 x.kind,.int .i64 x.spec.f,.int .i64 x.spec.pc,.int .i64 x.spec.seen,.int .i64 x.spec.target,.slice fa x.frames.length fc,.slice ra x.recs.length rc,.slice va vals.length vc,.slice na nums.length nc,.int .i64 (hs.length:Nat),.slice (some ⟨g3,0,none⟩) (k+1) cap3,.slice none 0 0] 196 (0,0))/\(w3.setCell ⟨w.heap.size+1,10,none⟩ (.slice (some ⟨g3,0,none⟩) (k+1) cap3)).ownsRow (w.heap.size+1+1) 3 1 (.slice (some ⟨g3,0,none⟩) (k+1) cap3) (k+1) (atL hs.length (k+1) [])/\Below w.heap.size w (w3.setCell ⟨w.heap.size+1,10,none⟩ (.slice (some ⟨g3,0,none⟩) (k+1) cap3))):=by
    have hbe:Below wr.heap.size wr (wr.alloc (.cells #[.int .i64 (-1)] 3)):=b_r.alloc n_l _;refine⟨by simpa using ak (i:=10) hK3 (.slice (some ⟨g3,0,none⟩) (k+1) cap3),?_,((hb.trans (hbe.mono hb.size)).grown hgrow3 (by have:=hb.size;simp;omega) (fun g hg=>by have:=(hown.lt g hg).1;omega)).setCell (by simp) _⟩;have e1:atL hs.length (k+1) []=atL hs.length k []++[.int .i64 (-1)]:=by unfold atL;rw[List.range_succ,List.map_append];simp[atI]
    rw[e1];exact cd hown3 (fun g c hg hh=>by rw[Below.heap_setCell _ _ _ _ (show g≠w.heap.size+1 from fun e=>by have:=(hown3.lt g hg).1;omega)];exact hh)
   clear hown3 hgrow3 hat3 hlt3 hK3 n3 f3 hown hBl kc kc';go_roundw
   case rel=>exact⟨k+1,_,by omega,by go_num,HT.out.1,HT.out.2.1,HT.out.2.2⟩
   case measure=>simp[intOf];omega
  ·have hkl:k=x.recs.length:=by omega
   subst hkl;have hMk:MkAt x fa ra va na fc rc vc nc vals nums hs.length wr (w.heap.size+1) av (.slice none 0 0) []:=⟨hBl,hown,World.ownsRow_nil _ _ _ _,fun b _ h=>by simp[Value.ownBlock] at h⟩;have hbE:Below wr.heap.size wr (wr.alloc (.cells #[] 136)):=b_r.alloc n_l _;have hme:=hMk.mono hbE;have hB2:=hb.trans (hbE.mono hb.size);have hrow0:(wr.alloc (.cells #[] 136)).ownsRow w.heap.size 136 4 (.slice (some ⟨wr.heap.size,0,none⟩) 0 0) 0 []:=World.ownsRow_made wr #[] 0 hb.size (by unfold maxLen;omega) rfl;have HM:=hidE hme;have HB:=hidE hB2;have HR:=hidE hrow0;clear hMk hbE hme hB2 hrow0 hown hb hBl;go_upto_region 7 with fail
   obtain⟨w7,hw7⟩:∃w7,w7=wr.alloc (.cells #[] 136):=⟨_,rfl⟩;rw[<-hw7] at HM HB HR ⊢;clear hw7;clear kc;go_wp2_with fail
   go_loopw [14,15] (fun o i wr=>∃(k:Nat) (av' ov':Value) (xs:List Value),k<=x.frames.length/\i=.int .i64 k/\wr.ownsRow w.heap.size 136 4 o k xs/\Hid (FrO wr w.heap.size xs (bx vals nums hs.length [] (x.frames.take k)))/\Hid (Below w.heap.size w wr)/\Hid (MkAt x fa ra va na fc rc vc nc vals nums hs.length wr (w.heap.size+1) av' ov' (metFs [] (x.frames.take k)))) (fun _ i _=>x.frames.length-(intOf i).toNat)
   case atStart=>exact⟨0,av,.slice none 0 0,[],by omega,rfl,HR.out,⟨by simp[bx],fun j hj=>by simp[bx] at hj⟩,HB,by simpa[metFs] using HM⟩
   case round=>
    obtain⟨k,av1,ov1,xs,hk,rfl,hown,HFr,HBr,HMr⟩:=hrel;have kc:=ae HMr.out.blk;have hfnI:=hfit.fn;by_cases hlt:k<x.frames.length
    ·obtain⟨fb,fo,fla,flc,fsa,fsc,rfl,-,c0,c1,c2,c3,hflm,hfsm⟩:=hEF k hlt;have c0':=cell_later HBr.out c0;have c1':=cell_later HBr.out c1;have c2':=cell_later HBr.out c2;have c3':=cell_later HBr.out c3;clear c0 c1 c2 c3;have hfew:=hfit.few k hlt;have hfl2:=hfit.fl x.frames[k] (g_m hlt);have hf1:=hfit.f1 x.frames[k] (g_m hlt);have hf2:=hfit.f2 x.frames[k] (g_m hlt);obtain⟨BX,hBX⟩:∃BX,BX=wr.heap.size:=⟨_,rfl⟩;obtain⟨w2,hw2⟩:∃w2,w2=wr.alloc (.cells #[.int .i64 x.frames[k].fn,.int .i64 x.frames[k].pc,.slice fla x.frames[k].locals.length flc,.slice fsa x.frames[k].stack.length fsc] 114):=⟨_,rfl⟩;have hb2:Below wr.heap.size wr w2:=by rw[hw2];exact b_r.alloc n_l _
     have hX2:w2.heap[BX]?=some (.cells #[.int .i64 x.frames[k].fn,.int .i64 x.frames[k].pc,.slice fla x.frames[k].locals.length flc,.slice fsa x.frames[k].stack.length fsc] 114 (0,0)):=by rw[hw2,hBX];exact al _ _ _
     have hb0_2:Below w.heap.size w w2:=HBr.out.trans (hb2.mono HBr.out.size);go_upto_region 11 with fail
     rw[<-hw2,<-hBX];clear hw2 hBX;have x2:=ae hX2;clear kc c0' c1' c2' c3';go_wp2_with fail
     refine (fC (lo:=w.heap.size) x.frames[k].locals fla flc (HMr.out.mono hb2) (by omega) hb0_2 n_l hfew.1 hhl hrl hnv hnn hva hna hfl2.1 hf1 hflm).mono ?_;rintro e w3 ⟨v3,rfl,hv3,hK3,av3,ov3,hM3⟩;obtain⟨a3,c3,rfl⟩:=di hv3;have hX3:=hK3.kept hX2 ⟨by decide,by decide⟩;have hown3:w3.ownsRow w.heap.size 136 4 _ k xs:=cd (aX hown hb2) (fun g c _ hh=>hK3.kept hh ⟨by decide,by decide⟩);have hb0_3:Below w.heap.size w w3:=hb0_2.trans (hK3.below n_l hb0_2.size);have hs3:w2.heap.size<=w3.heap.size:=hK3.size;have hs2:wr.heap.size<=w2.heap.size:=hb2.size;have hs0:w.heap.size<=wr.heap.size:=HBr.out.size;clear x2;go_upto_region 12 with fail
     have hbd3:Below w3.heap.size w3 w3.drew:=b_r.drew;have hh:(fun w':World=>w'.cell? ⟨BX,0,none⟩=some (.int .i64 x.frames[k].fn)/\w'.cell? ⟨BX,1,none⟩=some (.int .i64 x.frames[k].pc)/\w'.cell? ⟨BX,3,none⟩=some (.slice fsa x.frames[k].stack.length fsc)) w3.drew:=⟨cell_later hbd3 (ckc hX3 rfl),cell_later hbd3 (ckc hX3 rfl),cell_later hbd3 (ckc hX3 rfl)⟩;have hfw2:=hfew.2;have hfn2:=hfl2.2;have hfs2:=hf2;refine bC (RS [] (fun w':World=>w'.cell? ⟨BX,0,none⟩=some (.int .i64 x.frames[k].fn)/\w'.cell? ⟨BX,1,none⟩=some (.int .i64 x.frames[k].pc)/\w'.cell? ⟨BX,3,none⟩=some (.slice fsa x.frames[k].stack.length fsc))) (by kernel_rfl) ?_;refine tkP (i:=0) (v:=?_) rfl (by kernel_rfl) (fun _ _ _ h=>h) ?_ ?_;rotate_left
     ·intro w';go_simp;try with_reducible rfl
     simp only[Act.put,List.setIfInBounds_toArray]
     refine tkP (i:=1) (v:=?_) rfl (by kernel_rfl) (fun _ _ _ h=>h) ?_ ?_;rotate_left
     ·intro w';go_simp;try with_reducible rfl
     simp only[Act.put]
     refine tkS (i:=2) [10,11,12,13] (v:=?_) rfl (by kernel_rfl) (by kernel_rfl) (fun _ _ _ h=>h) ?_ hh ?_;rotate_left
     ·intro w' hSw;obtain⟨y0,y1,y2⟩:=hSw;go_simp;try with_reducible rfl
     simp only[Act.put]
     refine tkP (i:=3) (v:=?_) rfl (by kernel_rfl) (fun _ _ _ h=>h) ?_ ?_;rotate_left
     ·intro w';go_simp;try with_reducible rfl
     simp only[Act.put]
     refine tkS (i:=4) [10,11,12,13] (v:=?_) rfl (by kernel_rfl) (by kernel_rfl) (fun _ _ _ h=>h) ?_ hh ?_;rotate_left
     ·intro w' hSw;obtain⟨y0,y1,y2⟩:=hSw;go_simp;try with_reducible rfl
     simp only[Act.put]
     refine tkP (i:=5) (v:=?_) rfl (by kernel_rfl) (fun _ _ _ h=>h) ?_ ?_;rotate_left
     ·intro w';go_simp;try with_reducible rfl
     simp only[Act.put]
     refine tkP (i:=6) (v:=?_) rfl (by kernel_rfl) (fun _ _ _ h=>h) ?_ ?_;rotate_left
     ·intro w';go_simp;try with_reducible rfl
     simp only[Act.put]
     refine tkP (i:=7) (v:=?_) rfl (by kernel_rfl) (fun _ _ _ h=>h) ?_ ?_;rotate_left
     ·intro w';go_simp;try with_reducible rfl
     simp only[Act.put]
     refine tkS (i:=8) [9,10,11,12,13] (v:=?_) rfl (by kernel_rfl) (by kernel_rfl) (fun _ _ _ h=>h) ?_ hh ?_;rotate_left
     ·intro w' hSw;obtain⟨y0,y1,y2⟩:=hSw;go_simp;try with_reducible rfl
     simp only[Act.put]
     refine ba (i:=9) (o:=_) (by kernel_rfl) rfl (fun Kq hK=>?_);go_simp;refine (fC (lo:=w.heap.size) x.frames[k].stack fsa fsc (hM3.mono hbd3) (by omega) (hb0_3.trans (hbd3.mono hb0_3.size)) n_l hfw2 hhl hrl hnv hnn hva hna hfn2 hfs2 hfsm).mono ?_;rintro e w4 ⟨v4,rfl,hv4,hK4,av4,ov4,hM4⟩;obtain⟨a4,c4,rfl⟩:=di hv4;have hX4:=hK4.kept (ah hX3 hbd3) ⟨by decide,by decide⟩;have hown4:w4.ownsRow w.heap.size 136 4 u14 k xs:=cd (aX hown3 hbd3) (fun g c _ hh=>hK4.kept hh ⟨by decide,by decide⟩);have hb0_4:Below w.heap.size w w4:=(hb0_3.trans (hbd3.mono hb0_3.size)).trans (hK4.below n_l (hb0_3.trans (hbd3.mono hb0_3.size)).size);have hs4:w3.heap.size<=w4.heap.size:=hK4.size;have hh:(fun w':World=>w'.cell? ⟨BX,0,none⟩=some (.int .i64 x.frames[k].fn)/\w'.cell? ⟨BX,1,none⟩=some (.int .i64 x.frames[k].pc)/\w'.cell? ⟨BX,3,none⟩=some (.slice fsa x.frames[k].stack.length fsc)) w4:=⟨ckc hX4 rfl,ckc hX4 rfl,ckc hX4 rfl⟩;refine hK.out _ _ (.inr (fun _=>hh)) ?_;clear hK Kq;try simp only[Act.put]
     refine tkP (i:=10) (v:=?_) rfl (by kernel_rfl) (fun _ _ _ h=>h) ?_ ?_;rotate_left
     ·intro w';go_simp;try with_reducible rfl
     simp only[Act.put]
     refine ba (i:=11) (o:=_) (by kernel_rfl) rfl (fun Kq hK=>?_);go_simp;have hbe:Below w4.heap.size w4 (w4.alloc (.cells #[.int .i64 x.frames[k].fn,.int .i64 x.frames[k].pc,.slice a3 x.frames[k].locals.length c3,.slice a4 x.frames[k].stack.length c4] 136)):=b_r.alloc n_l _;refine hK.out _ _ (.inr (fun _=>⟨cell_later hbe hh.1,cell_later hbe hh.2.1,cell_later hbe hh.2.2⟩)) ?_;clear hK Kq;try simp only[Act.put]
     refine ba (i:=12) (o:=_) (by kernel_rfl) rfl (fun Kq hK=>?_);refine step_append_lies _ rfl _ _ 58 rfl w.heap.size 136 i6 (.agg #[.int .i64 0,.int .i64 0,.slice none 0 0,.slice none 0 0]) 4 64 Tryz.underlying58 hi6 hx0 hx1 hx2 rfl (by decide) u14 k xs rfl (World.ownsRow.alloc hown4 _) ⟨w4.heap.size,0,none⟩ 1 1 [.int .i64 x.frames[k].fn,.int .i64 x.frames[k].pc,.slice a3 x.frames[k].locals.length c3,.slice a4 x.frames[k].stack.length c4] rfl rfl (World.news_of_block (cs:=#[.int .i64 x.frames[k].fn,.int .i64 x.frames[k].pc,.slice a3 x.frames[k].locals.length c3,.slice a4 x.frames[k].stack.length c4]) (t:=136) (fr:=(0,0)) (heap_alloc_new w4 _)) (by simp[Value.oneCell']) (by decide) (by unfold maxLen;omega) (by omega) (by have:=hb0_4.size;simp;omega) _ rfl ?_;intro g5 cap5 w5 hown5 hgrow5 hat5 hlt5;refine hK.out _ _ (.inr (fun _=>?_)) ?_
     ·have nB:some BX≠u14.ownBlock:=fun e=>by
       rcases hown4.2 with ⟨e1,-⟩ | ⟨b,cp,cu,e1,-,hh9,-⟩
       ·rw[e1] at e;simp[Value.ownBlock] at e
       ·rw[e1] at e;simp[Value.ownBlock] at e;rw[<-e,hX4] at hh9;cases hh9
      have h9:=ah hX4 hbe;have h10:w5.heap[BX]?=some (.cells #[.int .i64 x.frames[k].fn,.int .i64 x.frames[k].pc,.slice fla x.frames[k].locals.length flc,.slice fsa x.frames[k].stack.length fsc] 114 (0,0)):=by rw[hgrow5.block BX (ay h9) nB];exact h9
      exact⟨ckc h10 rfl,ckc h10 rfl,ckc h10 rfl⟩
     clear hK Kq;try simp only[Act.put]
     refine tkP (i:=13) (v:=?_) rfl (by kernel_rfl) (fun _ _ _ h=>h) ?_ ?_;rotate_left
     ·intro w';go_simp;try with_reducible rfl
     simp only[Act.put]
     refine bB (by kernel_rfl) ?_ _;have HT:Hid (w5.ownsRow w.heap.size 136 4 (.slice (some ⟨g5,0,none⟩) (k+1) cap5) (k+1) (xs++[.int .i64 x.frames[k].fn,.int .i64 x.frames[k].pc,.slice a3 x.frames[k].locals.length c3,.slice a4 x.frames[k].stack.length c4])/\FrO w5 w.heap.size (xs++[.int .i64 x.frames[k].fn,.int .i64 x.frames[k].pc,.slice a3 x.frames[k].locals.length c3,.slice a4 x.frames[k].stack.length c4]) (bx vals nums hs.length [] (x.frames.take (k+1)))/\Below w.heap.size w w5/\MkAt x (some ⟨fb,fo,none⟩) ra va na fc rc vc nc vals nums hs.length w5 (w.heap.size+1) av4 ov4 (metFs [] (x.frames.take (k+1)))):=by
      have hE4:w4.ownsRow w.heap.size 136 4 u14 k xs:=hown4;refine⟨hown5,?_,(hb0_4.trans (hbe.mono hb0_4.size)).grown hgrow5 (by have:=hb0_4.size;simp;omega) (fun g hg=>(hown4.lt g hg).1),?_⟩
      ·rw[worthFs_more vals nums hs.length [] x.frames k hlt];have key:∀v n (l:List Vl),w4.ownsRow w.heap.size 80 3 v n (flat l)->w5.ownsRow w.heap.size 80 3 v n (flat l):=fun v n l h=>c6 (aX h hbe) (World.ownsRow.alloc hown4 _) (by decide) hgrow5
       have h1:FrO w4 w.heap.size xs (bx vals nums hs.length [] (x.frames.take k)):=HFr.out.kept (fun v n l h=>cd (aX (cd (aX h hb2) (fun g c _ hh=>hK3.kept hh ⟨by decide,by decide⟩)) hbd3) (fun g c _ hh=>hK4.kept hh ⟨by decide,by decide⟩));have h2:=cd (aX hv3 hbd3) (fun g c _ hh=>hK4.kept hh ⟨by decide,by decide⟩);exact (h1.next (f:=gC vals nums hs.length (metFs [] (x.frames.take k)) x.frames[k]) (by show w4.ownsRow _ _ _ _ (bu _ _ _ _ _).length _;rw[bN];exact b9 h2 (by omega)) (by show w4.ownsRow _ _ _ _ (bu _ _ _ _ _).length _;rw[bN];exact b9 hv4 (by have:w3.drew.heap.size=w3.heap.size:=rfl;omega))).kept key
      ·rw[metFs_more [] x.frames k hlt];exact (hM4.mono hbe).grew (World.ownsRow.alloc hown4 _) ⟨by decide,by decide⟩ hgrow5
     clear hown hown3 hown4 hown5 hgrow5 hat5 hlt5 hh hX3 hX4 hX2;go_wp2;go_roundw
     case rel=>exact⟨k+1,av4,ov4,_,by omega,by go_num,HT.out.1,HT.out.2.1,HT.out.2.2.1,HT.out.2.2.2⟩
     case measure=>simp[intOf];omega
    ·have hkl:k=x.frames.length:=by omega
     have HF2:=HFr.out;have HM2:=HMr.out;rw[hkl,List.take_length] at HF2 HM2;rw[hkl] at hown;have HF3:=hidE HF2;have HM3:=hidE HM2;have HO3:=hidE hown;clear HF2 HM2 HFr HMr hown;obtain⟨J,hJl,hJ⟩:=built_some vals nums hs.length (recs:=x.recs) hfit.ri (met0:=metFs [] x.frames) (MetOk.frames x.frames (MetOk.nil _) hfit.fi);have hrec:=c7 vals nums hs.length (recs:=x.recs) hfit.ri (met0:=metFs [] x.frames) (MetOk.frames x.frames (MetOk.nil _) hfit.fi);have HJ:=hidE hJ;have hrn:=hfit.rn;clear hJ;go_wp2_with fail
     refine (sCopyHeap_any ha hs hcp _ hhl hhc (hH.mono HBr.out)).mono ?_;rintro e w6 ⟨q6,ys6,rfl,hown6,hO6,hb6⟩;have hs6:w.heap.size<=wr.heap.size:=HBr.out.size;have HB6:Hid (Below w.heap.size w w6):=HBr.out.trans (hb6.mono hs6);have HF6:Hid (w6.ownsRow w.heap.size 136 4 _ x.frames.length xs/\FrO w6 w.heap.size xs (bx vals nums hs.length [] x.frames)):=⟨aX HO3.out hb6,HF3.out.kept (fun v n l h=>aX h hb6)⟩;have HM6:Hid (MkAt x fa ra va na fc rc vc nc vals nums hs.length w6 (w.heap.size+1) av1 ov1 (metFs [] x.frames)):=HM3.out.mono hb6;have HR6:Hid (w6.ownsRow w.heap.size 125 1 q6 hs.length ys6/\RecO w6 w.heap.size ys6 hs):=⟨b9 hown6 hs6,hO6.low hs6⟩;clear HO3 HF3 HM3 hown6 hO6 hb6 kc hlt;go_wp2_with fail
     go_loopw [18,19] (fun o i wz=>∃(k:Nat) (av' ov':Value) (ys:List Value),k<=J/\i=.int .i64 k/\wz.ownsRow w.heap.size 125 1 o (hs.length+k) ys/\Hid (RecO wz w.heap.size ys (hs++(aS vals nums hs.length x.recs (metFs [] x.frames) k).2))/\Hid (Below w.heap.size w wz)/\Hid (MkAt x fa ra va na fc rc vc nc vals nums hs.length wz (w.heap.size+1) av' ov' (aS vals nums hs.length x.recs (metFs [] x.frames) k).1)/\Hid (wz.ownsRow w.heap.size 136 4 u14 x.frames.length xs/\FrO wz w.heap.size xs (bx vals nums hs.length [] x.frames))) (fun _ i _=>J-(intOf i).toNat)
     case atStart=>exact⟨0,av1,ov1,ys6,by omega,rfl,HR6.out.1,by simpa[aS] using hidE HR6.out.2,HB6,HM6,HF6⟩
     case round=>
      obtain⟨k,av2,ov2,ys,hkJ,rfl,hownY,HY,HBz,HMz,HFz⟩:=hrel;obtain⟨oa2,oc2,rfl⟩:∃a c,ov2=.slice a (aS vals nums hs.length x.recs (metFs [] x.frames) k).1.length c:=by
       rcases HMz.out.ord.2 with ⟨e,h0⟩ | ⟨b,cp,cu,e,-⟩
       ·exact⟨none,0,by rw[e,h0]⟩
       ·exact⟨_,cp,e⟩
      have kc:=ae HMz.out.blk;have hmk:=(hrec k).few;have hlenR:=da vals nums hs.length x.recs (metFs [] x.frames) k;by_cases hlt:k<(aS vals nums hs.length x.recs (metFs [] x.frames) k).1.length
      ·obtain⟨r,hr,hrl3⟩:=recsAt_in vals nums hs.length (recs:=x.recs) hfit.ri (met0:=metFs [] x.frames) (MetOk.frames x.frames (MetOk.nil _) hfit.fi) k hlt;have hkJ2:k<J:=by
        rcases Nat.lt_or_ge k J with h | h
        ·exact h
        ·have e:k=J:=by omega
         have:=HJ.out.done;rw[e] at hlt;omega
       obtain⟨og,rfl,hog⟩:∃og,oa2=some ⟨og,0,none⟩/\wr.cell? ⟨og,k,none⟩=some (.int .i64 (r:Int)):=by
        rcases HMz.out.ord.2 with ⟨e,h0⟩ | ⟨b,cp,cu,e,-,hh,-,-,hcs,htk⟩
        ·omega
        ·cases e;refine⟨b,rfl,?_⟩;rw[ae hh,<-Array.getElem?_toList];have e2:=congrArg (fun l=>l[k]?) htk;simp only[List.getElem?_take,Nat.mul_one] at e2
         rw[if_pos hlt] at e2;rw[e2,List.getElem?_map,List.getElem?_eq_getElem hlt,hr];rfl
       obtain⟨rb,ro,fa2,fc2,rfl,-,hrc,hfr⟩:=hER r hrl3;have hrc':=cell_later HBz.out hrc;have hsr:=hfit.rs x.recs[r] (g_m hrl3);have hf6:=hfit.rl x.recs[r] (g_m hrl3);have hri:=hfit.ri x.recs[r] (g_m hrl3);have hrI:(r:Int)<(x.recs.length:Int):=by omega
       have hkI2:(k:Int)<((aS vals nums hs.length x.recs (metFs [] x.frames) k).1.length:Int):=by omega
       have hfw:∀j≤x.recs[r].fields.length,(metL (aS vals nums hs.length x.recs (metFs [] x.frames) k).1 (x.recs[r].fields.take j)).length<=1048576:=fun j _=>by
        have h1:=(hrec k).srcs (x.recs[r].fields.take j) (fun s hs=>hri s (List.mem_of_mem_take hs));have:=h1.few;omega
       have hst:aS vals nums hs.length x.recs (metFs [] x.frames) (k+1)=(metL (aS vals nums hs.length x.recs (metFs [] x.frames) k).1 x.recs[r].fields,(aS vals nums hs.length x.recs (metFs [] x.frames) k).2++[bu vals nums hs.length (aS vals nums hs.length x.recs (metFs [] x.frames) k).1 x.recs[r].fields]):=by
        have e1:dp x.recs ((aS vals nums hs.length x.recs (metFs [] x.frames) k).1.getD k 0)=x.recs[r].fields:=by
         rw[List.getD_eq_getElem?_getD,List.getElem?_eq_getElem hlt,Option.getD_some,hr];unfold dp;rw[List.getD_eq_getElem?_getD,Int.toNat_natCast,List.getElem?_eq_getElem hrl3];rfl
        show (_,_)=_
        rw[e1]
       have hbd:Below wr.heap.size wr wr.drew:=b_r.drew;have hs7:w.heap.size<=wr.heap.size:=HBz.out.size;have hBd:Below w.heap.size w wr.drew:=HBz.out.trans (hbd.mono hs7);go_upto_region 17 with fail
       have hh:(fun w':World=>w'.cell? ⟨w.heap.size+1,6,none⟩=some (.slice (some ⟨rb,ro,none⟩) x.recs.length rc)/\w'.cell? ⟨w.heap.size+1,11,none⟩=some (.slice (some ⟨og,0,none⟩) (aS vals nums hs.length x.recs (metFs [] x.frames) k).1.length oc2)/\w'.cell? ⟨og,k,none⟩=some (.int .i64 (r:Int))/\w'.cell? ⟨rb,ro+r,none⟩=some (.slice fa2 x.recs[r].fields.length fc2)) wr.drew:=⟨cell_later hbd (by rw[kc];rfl),cell_later hbd (by rw[kc];rfl),cell_later hbd hog,cell_later hbd hrc'⟩;refine bC (RS [17,19,20] (fun w':World=>w'.cell? ⟨w.heap.size+1,6,none⟩=some (.slice (some ⟨rb,ro,none⟩) x.recs.length rc)/\w'.cell? ⟨w.heap.size+1,11,none⟩=some (.slice (some ⟨og,0,none⟩) (aS vals nums hs.length x.recs (metFs [] x.frames) k).1.length oc2)/\w'.cell? ⟨og,k,none⟩=some (.int .i64 (r:Int))/\w'.cell? ⟨rb,ro+r,none⟩=some (.slice fa2 x.recs[r].fields.length fc2))) (by kernel_rfl) ?_;refine tkP (i:=0) (v:=?_) rfl (by kernel_rfl) (fun _ _ _ h=>h) ?_ ?_;rotate_left
       ·intro w';go_simp;try with_reducible rfl
       simp only[Act.put,List.setIfInBounds_toArray]
       refine tkP (i:=1) (v:=?_) rfl (by kernel_rfl) (fun _ _ _ h=>h) ?_ ?_;rotate_left
       ·intro w';go_simp;try with_reducible rfl
       simp only[Act.put]
       refine tkP (i:=2) (v:=?_) rfl (by kernel_rfl) (fun _ _ _ h=>h) ?_ ?_;rotate_left
       ·intro w';go_simp;try with_reducible rfl
       simp only[Act.put]
       refine tkP (i:=3) (v:=?_) rfl (by kernel_rfl) (fun _ _ _ h=>h) ?_ ?_;rotate_left
       ·intro w';go_simp;try with_reducible rfl
       simp only[Act.put]
       refine tkP (i:=4) (v:=?_) rfl (by kernel_rfl) (fun _ _ _ h=>h) ?_ ?_;rotate_left
       ·intro w';go_simp;try with_reducible rfl
       simp only[Act.put]
       refine tkP (i:=5) (v:=?_) rfl (by kernel_rfl) (fun _ _ _ h=>h) ?_ ?_;rotate_left
       ·intro w';go_simp;try with_reducible rfl
       simp only[Act.put]
       refine tkS (i:=6) [14,15,16,17,18,19,20,21] (v:=?_) rfl (by kernel_rfl) (by kernel_rfl) (fun _ _ _ h=>h) ?_ hh ?_;rotate_left
       ·intro w' hSw;obtain⟨y0,y1,y2,y3⟩:=hSw;go_simp;try with_reducible rfl
       simp only[Act.put]
       refine tkP (i:=7) (v:=?_) rfl (by kernel_rfl) (fun _ _ _ h=>h) ?_ ?_;rotate_left
       ·intro w';go_simp;try with_reducible rfl
       simp only[Act.put]
       refine tkP (i:=8) (v:=?_) rfl (by kernel_rfl) (fun _ _ _ h=>h) ?_ ?_;rotate_left
       ·intro w';go_simp;try with_reducible rfl
       simp only[Act.put]
       refine tkP (i:=9) (v:=?_) rfl (by kernel_rfl) (fun _ _ _ h=>h) ?_ ?_;rotate_left
       ·intro w';go_simp;try with_reducible rfl
       simp only[Act.put]
       refine tkS (i:=10) [12,13,14,15,16,17,18,19,20,21] (v:=?_) rfl (by kernel_rfl) (by kernel_rfl) (fun _ _ _ h=>h) ?_ hh ?_;rotate_left
       ·intro w' hSw;obtain⟨y0,y1,y2,y3⟩:=hSw;go_simp;try with_reducible rfl
       simp only[Act.put]
       refine tkP (i:=11) (v:=?_) rfl (by kernel_rfl) (fun _ _ _ h=>h) ?_ ?_;rotate_left
       ·intro w';go_simp;try with_reducible rfl
       simp only[Act.put]
       refine tkP (i:=12) (v:=?_) rfl (by kernel_rfl) (fun _ _ _ h=>h) ?_ ?_;rotate_left
       ·intro w';go_simp;try with_reducible rfl
       simp only[Act.put]
       refine tkS (i:=13) [14,15,16,17,18,19,20,21] (v:=?_) rfl (by kernel_rfl) (by kernel_rfl) (fun _ _ _ h=>h) ?_ hh ?_;rotate_left
       ·intro w' hSw;obtain⟨y0,y1,y2,y3⟩:=hSw;go_simp;try with_reducible rfl
       simp only[Act.put]
       refine tkP (i:=14) (v:=?_) rfl (by kernel_rfl) (fun _ _ _ h=>h) ?_ ?_;rotate_left
       ·intro w';go_simp;try with_reducible rfl
       simp only[Act.put]
       refine tkP (i:=15) (v:=?_) rfl (by kernel_rfl) (fun _ _ _ h=>h) ?_ ?_;rotate_left
       ·intro w';go_simp;try with_reducible rfl
       simp only[Act.put]
       refine tkS (i:=16) [17,18,19,20,21] (v:=?_) rfl (by kernel_rfl) (by kernel_rfl) (fun _ _ _ h=>h) ?_ hh ?_;rotate_left
       ·intro w' hSw;obtain⟨y0,y1,y2,y3⟩:=hSw;go_simp;try with_reducible rfl
       simp only[Act.put]
       refine ba (i:=17) (o:=_) (by kernel_rfl) rfl (fun Kq hK=>?_);go_simp;refine (fC (lo:=w.heap.size) x.recs[r].fields fa2 fc2 (HMz.out.mono hbd) (by omega) hBd n_l hfw hhl hrl hnv hnn hva hna (by omega) hsr hfr).mono ?_;rintro e w4 ⟨v4,rfl,hv4,hK4,av4,ov4,hM4⟩;obtain⟨a4,c4,rfl⟩:=di hv4;have hown4:w4.ownsRow w.heap.size 125 1 u18 (hs.length+k) ys:=cd (aX hownY hbd) (fun g c _ hh=>hK4.kept hh ⟨by decide,by decide⟩);have hb0_4:Below w.heap.size w w4:=hBd.trans (hK4.below n_l hBd.size);refine hK.out _ _ (.inl (by decide)) ?_;clear hK Kq;try simp only[Act.put]
       refine tkP (i:=18) (v:=?_) rfl (by kernel_rfl) (fun _ _ _ h=>h) ?_ ?_;rotate_left
       ·intro w';go_simp;try with_reducible rfl
       simp only[Act.put]
       refine ba (i:=19) (o:=_) (by kernel_rfl) rfl (fun Kq hK=>?_);go_simp;have hbe:Below w4.heap.size w4 (w4.alloc (.cells #[.slice a4 x.recs[r].fields.length c4] 125)):=b_r.alloc n_l _;refine hK.out _ _ (.inl (by decide)) ?_;clear hK Kq;try simp only[Act.put]
       refine ba (i:=20) (o:=_) (by kernel_rfl) rfl (fun Kq hK=>?_);refine step_append_lies _ rfl _ _ 59 rfl w.heap.size 125 i5 (.agg #[.slice none 0 0]) 1 24 Tryz.underlying59 hi5 hy0 hy1 hy2 rfl (by decide) u18 (hs.length+k) ys rfl (World.ownsRow.alloc hown4 _) ⟨w4.heap.size,0,none⟩ 1 1 [.slice a4 x.recs[r].fields.length c4] rfl rfl (World.news_of_block (cs:=#[.slice a4 x.recs[r].fields.length c4]) (t:=125) (fr:=(0,0)) (heap_alloc_new w4 _)) (by simp[Value.oneCell']) (by decide) (by unfold maxLen;omega) (by omega) (by have:=hb0_4.size;simp;omega) _ rfl ?_;intro g5 cap5 w5 hown5 hgrow5 hat5 hlt5;refine hK.out _ _ (.inl (by decide)) ?_;clear hK Kq;try simp only[Act.put]
       refine tkP (i:=21) (v:=?_) rfl (by kernel_rfl) (fun _ _ _ h=>h) ?_ ?_;rotate_left
       ·intro w';go_simp;try with_reducible rfl
       simp only[Act.put]
       refine bB (by kernel_rfl) ?_ _;have HT:Hid (w5.ownsRow w.heap.size 125 1 (.slice (some ⟨g5,0,none⟩) (hs.length+k+1) cap5) (hs.length+k+1) (ys++[.slice a4 x.recs[r].fields.length c4])/\RecO w5 w.heap.size (ys++[.slice a4 x.recs[r].fields.length c4]) (hs++(aS vals nums hs.length x.recs (metFs [] x.frames) (k+1)).2)/\Below w.heap.size w w5/\MkAt x fa (some ⟨rb,ro,none⟩) va na fc rc vc nc vals nums hs.length w5 (w.heap.size+1) av4 ov4 (aS vals nums hs.length x.recs (metFs [] x.frames) (k+1)).1/\(w5.ownsRow w.heap.size 136 4 u14 x.frames.length xs/\FrO w5 w.heap.size xs (bx vals nums hs.length [] x.frames))):=by
        have key:∀v n (l:List Vl),w4.ownsRow w.heap.size 80 3 v n (flat l)->w5.ownsRow w.heap.size 80 3 v n (flat l):=fun v n l h=>c6 (aX h hbe) (World.ownsRow.alloc hown4 _) (by decide) hgrow5
        have k1:∀v n (l:List Vl),wr.ownsRow w.heap.size 80 3 v n (flat l)->w4.ownsRow w.heap.size 80 3 v n (flat l):=fun v n l h=>cd (aX h hbd) (fun g c _ hh=>hK4.kept hh ⟨by decide,by decide⟩)
        refine⟨hown5,?_,(hb0_4.trans (hbe.mono hb0_4.size)).grown hgrow5 (by have:=hb0_4.size;simp;omega) (fun g hg=>(hown4.lt g hg).1),?_,c6 (aX (cd (aX HFz.out.1 hbd) (fun g c _ hh=>hK4.kept hh ⟨by decide,by decide⟩)) hbe) (World.ownsRow.alloc hown4 _) (by decide) hgrow5,(HFz.out.2.kept k1).kept key⟩
        ·rw[hst,<-List.append_assoc];exact ((HY.out.kept k1).next (r:=bu vals nums hs.length (aS vals nums hs.length x.recs (metFs [] x.frames) k).1 x.recs[r].fields) (by rw[bN];exact b9 hv4 hs7)).kept key
        ·rw[hst];exact (hM4.mono hbe).grew (World.ownsRow.alloc hown4 _) ⟨by decide,by decide⟩ hgrow5
       clear hownY hown4 hown5 hgrow5 hat5 hlt5 hh hv4 hM4;go_wp2;go_roundw
       case rel=>exact⟨k+1,av4,ov4,_,by omega,by go_num,HT.out.1,HT.out.2.1,HT.out.2.2.1,HT.out.2.2.2.1,HT.out.2.2.2.2⟩
       case measure=>simp[intOf];omega
      ·have hkJ2:k=J:=by
        rcases Nat.lt_or_ge k J with h | h
        ·exact absurd (HJ.out.more k h) hlt
        ·omega
       obtain⟨qa,qc,rfl⟩:∃a c,u18=.slice a (hs.length+k) c:=by
        rcases hownY.2 with ⟨e,h0⟩ | ⟨b,cp,cu,e,-⟩
        ·exact⟨none,0,by rw[e,h0]⟩
        ·exact⟨_,cp,e⟩
       subst hkJ2;have HYo:=hidE hownY;clear hownY;by_cases h120:hs.length+k<=120
       ·have h1:¬(120<((hs.length+k:Nat):Int)):=by omega
        go_wp2;go_ret2
        exact⟨⟨k,_,_,xs,ys,rfl,HJ.out,.inl ⟨h120,HFz.out.1,HFz.out.2,HYo.out,HY.out⟩⟩,HBz.out⟩
       ·have h1:(120<((hs.length+k:Nat):Int)):=by omega
        have hbe1:Below wr.heap.size wr ((wr.alloc (.cells #[] 136)).alloc (.cells #[] 125)):=(b_r.alloc n_l _).alloc (by simp) _;have HQ:Hid (((wr.alloc (.cells #[] 136)).alloc (.cells #[] 125)).ownsRow w.heap.size 136 4 (.slice (some ⟨wr.heap.size,0,none⟩) 0 0) 0 []/\((wr.alloc (.cells #[] 136)).alloc (.cells #[] 125)).ownsRow w.heap.size 125 1 (.slice (some ⟨wr.heap.size+1,0,none⟩) 0 0) 0 []/\Below w.heap.size w ((wr.alloc (.cells #[] 136)).alloc (.cells #[] 125))):=by
         have hs7:w.heap.size<=wr.heap.size:=HBz.out.size;refine⟨World.ownsRow.alloc (World.ownsRow_made wr #[] 0 hs7 (by unfold maxLen;omega) rfl) _,?_,HBz.out.trans (hbe1.mono hs7)⟩;have:=World.ownsRow_made (base:=w.heap.size) (e:=125) (size:=1) (wr.alloc (.cells #[] 136)) #[] 0 (by simp;omega) (by unfold maxLen;omega) rfl;simpa using this
        go_wp2;go_ret2
        exact⟨⟨k,_,_,[],[],rfl,HJ.out,.inr ⟨by omega,HQ.out.1,HQ.out.2.1⟩⟩,HQ.out.2.2⟩
end Go.Proofs.YtbjmgmmekmfjhaaGreatDoor
