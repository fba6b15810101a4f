/- TV28 -/
import Derived.Test.YtdlkbbgmjilccaaGreatDoorTV24
import Derived.Test.YtdlkbbgmjilccaaGreatDoorTV27
set_option maxHeartbeats 32000000
set_option maxRecDepth 100000
namespace Go.Proofs.YtdlkbbgmjilccaaGreatDoor
open Go.RowKit
theorem toSrc_b(x:Sr)(w:World) :
  Calls Tryz.prog 228 #[.agg #[.int .i64 x.k,.int .i64 x.n,.int .i64 x.v.k,.int .i64 x.v.n,.string x.v.s]] w fun e w'=>e=.returned (.agg #[.int .i64 x.k,.int .i64 x.n,.int .i64 x.v.k,.int .i64 x.v.n,.string x.v.s])/\Below w.heap.size w w':=by
 have hbA:Below w.heap.size w (((w.alloc (.cells #[.int .i64 x.k,.int .i64 x.n,.int .i64 x.v.k,.int .i64 x.v.n,.string x.v.s] 357)).alloc (.cells #[.int .i64 0,.int .i64 0,.int .i64 0,.int .i64 0,.string ⟨#[]⟩] 273)).alloc (.cells #[.int .i64 x.k,.int .i64 x.n,.int .i64 0,.int .i64 0,.string ⟨#[]⟩] 273)):=((gM.alloc nL _).alloc (by simp) _).alloc (by simp;omega) _;have hI0:=al (al (ah w #[.int .i64 x.k,.int .i64 x.n,.int .i64 x.v.k,.int .i64 x.v.n,.string x.v.s] 357) (.cells #[.int .i64 0,.int .i64 0,.int .i64 0,.int .i64 0,.string ⟨#[]⟩] 273)) (.cells #[.int .i64 x.k,.int .i64 x.n,.int .i64 0,.int .i64 0,.string ⟨#[]⟩] 273);have hR0:=al (ah (w.alloc (.cells #[.int .i64 x.k,.int .i64 x.n,.int .i64 x.v.k,.int .i64 x.v.n,.string x.v.s] 357)) #[.int .i64 0,.int .i64 0,.int .i64 0,.int .i64 0,.string ⟨#[]⟩] 273) (.cells #[.int .i64 x.k,.int .i64 x.n,.int .i64 0,.int .i64 0,.string ⟨#[]⟩] 273);have hO0:=ah ((w.alloc (.cells #[.int .i64 x.k,.int .i64 x.n,.int .i64 x.v.k,.int .i64 x.v.n,.string x.v.s] 357)).alloc (.cells #[.int .i64 0,.int .i64 0,.int .i64 0,.int .i64 0,.string ⟨#[]⟩] 273)) #[.int .i64 x.k,.int .i64 x.n,.int .i64 0,.int .i64 0,.string ⟨#[]⟩] 273;simp only[World.size_alloc] at hR0 hO0
 go_enter Tryz.func228,Tryz.ntmps228
 go_wp2_with fail
 refine (cS _ _ _ _).mono ?_;rintro e w1 ⟨rfl,hbn⟩;have hI1:=ab hI0 hbn;have hR1:=ab hR0 hbn;have hO1:=ab hO0 hbn;have hB1:=hbA.trans (hbn.mono hbA.size);clear hI0 hR0 hO0 hbA hbn;have i1:=aa hI1;have r1:=aa hR1;have r2:=am hR1;have o1:=aa hO1;have o2:=am hO1;have hzy:w.heap.size+1+1<w1.heap.size:=aq hO1;go_wp2;refine bodyPost_ret (v:=.agg #[.int .i64 x.k,.int .i64 x.n,.int .i64 x.v.k,.int .i64 x.v.n,.string x.v.s]) (by simp[results,Tryz.results228,go_sem,r1]) rfl ⟨rfl,?_⟩
 ·exact ((((((((hB1.setCell (by simp;first | done | omega) _).setCell (by simp;first | done | omega) _).setCell (by simp;first | done | omega) _).setCell (by simp;first | done | omega) _).setCell (by simp;first | done | omega) _).setCell (by simp;first | done | omega) _).setCell (by simp;first | done | omega) _).setCell (by simp;first | done | omega) _)
theorem fg(a:Option Addr)(xs:List Sr)(cap:Nat)(w:World)(hx:aU bC xs)(hm:bq w 0 a xs) :
  Calls Tryz.prog 219 #[.slice a xs.length cap] w fun e w'=>e=.returned (.slice (some ⟨w.heap.size,0,none⟩) xs.length xs.length)/\SrY w' w.heap.size (some ⟨w.heap.size,0,none⟩) xs/\Below w.heap.size w w':=by
 obtain⟨hn,hc⟩:=hx;obtain⟨i0,hi,hz0,hz1,hz2⟩:=info_parts infoTSrc;go_enter Tryz.func219,Tryz.ntmps219
 go_wp2_with (first | (at_make;refine wpList_make_full _ rfl _ _ 225 rfl w.heap.size 273 i0 (.agg #[.int .i64 0,.int .i64 0,.int .i64 0,.int .i64 0,.string ByteArray.empty]) 5 Tryz.underlying225 hi hz0 hz1 _ _ _ _ xs.length rfl rfl rfl rfl (by rw[hz2];omega) (by unfold maxLen;omega) nL ?_;intro w1 hown hgrow))
 obtain⟨cur0,hblk,hsz⟩:=aR hown;have hb0:Below w.heap.size w w1:=gM.grown hgrow nL (by intro k hk;cases hk);clear hown hgrow hi hz0 hz1 hz2;go_loopw [4] (fun i wr=>∃(k:Nat) (cur:Array Value),k<=xs.length/\i=.int .i64 k/\wr.heap[w.heap.size]?=some (.cells cur 273 (0,0))/\cur.size=xs.length*5/\(∀j (hj:j<xs.length),j<k->cur[j*5]?=some (.int .i64 xs[j].k)/\cur[j*5+1]?=some (.int .i64 xs[j].n)/\cur[j*5+2]?=some (.int .i64 xs[j].v.k)/\cur[j*5+3]?=some (.int .i64 xs[j].v.n)/\cur[j*5+4]?=some (.string xs[j].v.s))/\Below w.heap.size w wr) (fun i _=>xs.length-(intOf i).toNat)
 case atStart=>exact⟨0,cur0,by omega,rfl,hblk,hsz,fun j _ h=>by omega,hb0⟩
 case round=>
  obtain⟨k,cur,hk,rfl,hblk,hsz,hdone,hb⟩:=hrel;by_cases hlt:k<xs.length
  ·obtain⟨b,off,rfl,-,d0,d1,d2,d3,d4⟩:=hm k hlt;have e0:=cell_later hb d0;have e1:=cell_later hb d1;have e2:=cell_later hb d2;have e3:=cell_later hb d3;have e4:=cell_later hb d4;clear d0 d1 d2 d3 d4;have hgs:w.heap.size<wr.heap.size:=aq hblk;go_wp2_with fail
   refine (toSrc_b xs[k] _).mono ?_;rintro e w2 ⟨rfl,hb2⟩;have hblk2:=ab hblk hb2;have hfz:=am hblk2;have hcl0:w2.cell? ⟨w.heap.size,k*5,none⟩=some cur[k*5]:=by rw[aa hblk2];simp
   have hcl1:w2.cell? ⟨w.heap.size,k*5+1,none⟩=some cur[k*5+1]:=by rw[aa hblk2];simp
   have hcl2:w2.cell? ⟨w.heap.size,k*5+2,none⟩=some cur[k*5+2]:=by rw[aa hblk2];simp
   have hcl3:w2.cell? ⟨w.heap.size,k*5+3,none⟩=some cur[k*5+3]:=by rw[aa hblk2];simp
   have hcl4:w2.cell? ⟨w.heap.size,k*5+4,none⟩=some cur[k*5+4]:=by rw[aa hblk2];simp
   have hb3:Below w.heap.size w w2:=hb.trans (hb2.mono hb.size);go_wp2;go_roundw
   case rel=>
    have hab:aL (w.heap.size+1) w2 (((((w2.setCell ⟨w.heap.size,k*5,none⟩ (.int .i64 xs[k].k)).setCell ⟨w.heap.size,k*5+1,none⟩ (.int .i64 xs[k].n)).setCell ⟨w.heap.size,k*5+2,none⟩ (.int .i64 xs[k].v.k)).setCell ⟨w.heap.size,k*5+3,none⟩ (.int .i64 xs[k].v.n)).setCell ⟨w.heap.size,k*5+4,none⟩ (.string xs[k].v.s)):=((((((aL.refl _ _).setCell (by simp) _).setCell (by simp) _).setCell (by simp) _).setCell (by simp) _).setCell (by simp) _);refine⟨k+1,(((((cur.setIfInBounds (k*5) (.int .i64 xs[k].k)).setIfInBounds (k*5+1) (.int .i64 xs[k].n)).setIfInBounds (k*5+2) (.int .i64 xs[k].v.k)).setIfInBounds (k*5+3) (.int .i64 xs[k].v.n)).setIfInBounds (k*5+4) (.string xs[k].v.s)),by omega,by go_num,(ao (ao (ao (ao (ao hblk2 _) _) _) _) _),by simpa using hsz,?_,(((((hb3.setCell nL _).setCell nL _).setCell nL _).setCell nL _).setCell nL _)⟩;intro j hj hjk;by_cases e:j=k
    ·subst e;refine⟨?_,?_,?_,?_,?_⟩
     ·rw[ac _ (by omega),ac _ (by omega),ac _ (by omega),ac _ (by omega)];exact az _ (by first | omega | (simp;omega))
     ·rw[ac _ (by omega),ac _ (by omega),ac _ (by omega)];exact az _ (by first | omega | (simp;omega))
     ·rw[ac _ (by omega),ac _ (by omega)];exact az _ (by first | omega | (simp;omega))
     ·rw[ac _ (by omega)];exact az _ (by first | omega | (simp;omega))
     ·exact az _ (by first | omega | (simp;omega))
    ·obtain⟨d0,d1,d2,d3,d4⟩:=hdone j hj (by omega);refine⟨?_,?_,?_,?_,?_⟩
     ·rw[ac _ (by omega),ac _ (by omega),ac _ (by omega),ac _ (by omega),ac _ (by omega)];exact d0
     ·rw[ac _ (by omega),ac _ (by omega),ac _ (by omega),ac _ (by omega),ac _ (by omega)];exact d1
     ·rw[ac _ (by omega),ac _ (by omega),ac _ (by omega),ac _ (by omega),ac _ (by omega)];exact d2
     ·rw[ac _ (by omega),ac _ (by omega),ac _ (by omega),ac _ (by omega),ac _ (by omega)];exact d3
     ·rw[ac _ (by omega),ac _ (by omega),ac _ (by omega),ac _ (by omega),ac _ (by omega)];exact d4
   case measure=>simp[intOf];omega
  ·go_wp2;go_ret
   refine⟨rfl,⟨fun j hj=>?_,w.heap.size,rfl,Nat.le_refl _,cur,hblk,hsz,fun j hj=>?_⟩,hb⟩
   ·obtain⟨d0,d1,d2,d3,d4⟩:=hdone j hj (by omega);exact⟨w.heap.size,0,rfl,Nat.le_refl _,by rw[aa hblk,Nat.zero_add];exact d0,by rw[aa hblk,Nat.zero_add];exact d1,by rw[aa hblk,Nat.zero_add];exact d2,by rw[aa hblk,Nat.zero_add];exact d3,by rw[aa hblk,Nat.zero_add];exact d4⟩
   ·obtain⟨d0,d1,d2,d3,d4⟩:=hdone j hj (by omega);exact⟨by rw[d0];exact aW _ _,by rw[d1];exact aW _ _,by rw[d2];exact aW _ _,by rw[d3];exact aW _ _,by rw[d4];exact noSl_str _⟩
theorem toExFrame_b(x:EF)(a0:Option Addr)(c0:Nat)(a1:Option Addr)(c1:Nat)(w:World)(hn0:aU bC x.locals)(p0:bq w 0 a0 x.locals)(hn1:aU bC x.stack)(p1:bq w 0 a1 x.stack) :
  Calls Tryz.prog 200 #[.agg #[.int .i64 x.fn,.int .i64 x.pc,.slice a0 x.locals.length c0,.slice a1 x.stack.length c1]] w fun e w'=>∃g0 g1,w.heap.size<=g0/\w.heap.size<=g1/\e=.returned (.agg #[.int .i64 x.fn,.int .i64 x.pc,.slice (some ⟨g0,0,none⟩) x.locals.length x.locals.length,.slice (some ⟨g1,0,none⟩) x.stack.length x.stack.length])/\SrY w' w.heap.size (some ⟨g0,0,none⟩) x.locals/\SrY w' w.heap.size (some ⟨g1,0,none⟩) x.stack/\Below w.heap.size w w':=by
 have hbA:Below w.heap.size w (((w.alloc (.cells #[.int .i64 x.fn,.int .i64 x.pc,.slice a0 x.locals.length c0,.slice a1 x.stack.length c1] 320)).alloc (.cells #[.int .i64 0,.int .i64 0,.slice none 0 0,.slice none 0 0] 227)).alloc (.cells #[.int .i64 x.fn,.int .i64 x.pc,.slice none 0 0,.slice none 0 0] 227)):=((gM.alloc nL _).alloc (by simp) _).alloc (by simp;omega) _;have hI0:=al (al (ah w #[.int .i64 x.fn,.int .i64 x.pc,.slice a0 x.locals.length c0,.slice a1 x.stack.length c1] 320) (.cells #[.int .i64 0,.int .i64 0,.slice none 0 0,.slice none 0 0] 227)) (.cells #[.int .i64 x.fn,.int .i64 x.pc,.slice none 0 0,.slice none 0 0] 227);have hR0:=al (ah (w.alloc (.cells #[.int .i64 x.fn,.int .i64 x.pc,.slice a0 x.locals.length c0,.slice a1 x.stack.length c1] 320)) #[.int .i64 0,.int .i64 0,.slice none 0 0,.slice none 0 0] 227) (.cells #[.int .i64 x.fn,.int .i64 x.pc,.slice none 0 0,.slice none 0 0] 227);have hO0:=ah ((w.alloc (.cells #[.int .i64 x.fn,.int .i64 x.pc,.slice a0 x.locals.length c0,.slice a1 x.stack.length c1] 320)).alloc (.cells #[.int .i64 0,.int .i64 0,.slice none 0 0,.slice none 0 0] 227)) #[.int .i64 x.fn,.int .i64 x.pc,.slice none 0 0,.slice none 0 0] 227;simp only[World.size_alloc] at hR0 hO0
 go_enter Tryz.func200,Tryz.ntmps200
 go_wp2_with fail
 refine (fg a0 x.locals c0 _ hn0 (p0.mono hbA)).mono ?_;rintro e w1 ⟨rfl,hnew,hbn⟩;have hI1:=ab hI0 hbn;have hR1:=ab hR0 hbn;have hO1:=ab hO0 hbn;have hB1:=hbA.trans (hbn.mono hbA.size);simp only[World.size_alloc] at hnew
 have q0:=hnew;clear hI0 hR0 hO0 hbA hbn hnew;obtain⟨x1,hx1⟩:∃x1,x1=(w1.setCell ⟨w.heap.size+1+1,2,none⟩ (.slice (some ⟨w.heap.size+1+1+1,0,none⟩) x.locals.length x.locals.length)):=⟨_,rfl⟩;have hOx:x1.heap[w.heap.size+1+1]?=some (.cells #[.int .i64 x.fn,.int .i64 x.pc,.slice (some ⟨w.heap.size+1+1+1,0,none⟩) x.locals.length x.locals.length,.slice none 0 0] 227 (0,0)):=by rw[hx1];simpa using (ao (i:=2) hO1 (.slice (some ⟨w.heap.size+1+1+1,0,none⟩) x.locals.length x.locals.length))
 have hRx:x1.heap[w.heap.size+1]?=some (.cells #[.int .i64 0,.int .i64 0,.slice none 0 0,.slice none 0 0] 227 (0,0)):=by rw[hx1,Below.heap_setCell _ _ _ _ (by simp)];exact hR1
 have hIx:x1.heap[w.heap.size]?=some (.cells #[.int .i64 x.fn,.int .i64 x.pc,.slice a0 x.locals.length c0,.slice a1 x.stack.length c1] 320 (0,0)):=by rw[hx1,Below.heap_setCell _ _ _ _ (by simp;omega)];exact hI1
 have hBx:Below w.heap.size w x1:=by rw[hx1];exact (hB1.setCell (by simp;omega) _)
 have hzx:w.heap.size+1+1+1<=x1.heap.size:=aq hOx;have q0x:=q0.above (w':=x1) (by rw[hx1];exact ((aL.refl _ _).setCell (by simp) _));have i1:=aa hI1;have o1:=aa hO1;have o2:=am hO1;go_wp2_with fail
 rw[<-hx1];clear hx1 i1 o1 o2 hI1 hR1 hO1 hB1 q0;refine (fg a1 x.stack c1 _ hn1 (p1.mono hBx)).mono ?_;rintro e w2 ⟨rfl,hnew,hbn⟩;have hI2:=ab hIx hbn;have hR2:=ab hRx hbn;have hO2:=ab hOx hbn;have hB2:=hBx.trans (hbn.mono hBx.size);have q0:=q0x.mono hbn;have q1:=hnew.low hzx;clear hIx hRx hOx hBx hbn q0x hnew;have i1:=aa hI2;have r1:=aa hR2;have r2:=am hR2;have o1:=aa hO2;have o2:=am hO2;have hzy:w.heap.size+1+1<w2.heap.size:=aq hO2;go_wp2;refine bodyPost_ret (v:=.agg #[.int .i64 x.fn,.int .i64 x.pc,.slice (some ⟨w.heap.size+1+1+1,0,none⟩) x.locals.length x.locals.length,.slice (some ⟨x1.heap.size,0,none⟩) x.stack.length x.stack.length]) (by simp[results,Tryz.results200,go_sem,r1]) rfl ⟨_,_,by omega,by omega,rfl,?_,?_,?_⟩
 ·exact (q0.above ((((((aL.refl _ _).setCell (by simp) _).setCell (by simp) _).setCell (by simp) _).setCell (by simp) _).setCell (by simp) _)).low (by omega)
 ·exact (q1.above ((((((aL.refl _ _).setCell (by simp) _).setCell (by simp) _).setCell (by simp) _).setCell (by simp) _).setCell (by simp) _)).low (by omega)
 ·exact (((((hB2.setCell (by simp;first | done | omega) _).setCell (by simp;first | done | omega) _).setCell (by simp;first | done | omega) _).setCell (by simp;first | done | omega) _).setCell (by simp;first | done | omega) _)
theorem toExFrameS_b(a:Option Addr)(xs:List EF)(cap:Nat)(w:World)(hx:aU cz xs)(hm:bZ w 0 a xs) :
  Calls Tryz.prog 175 #[.slice a xs.length cap] w fun e w'=>e=.returned (.slice (some ⟨w.heap.size,0,none⟩) xs.length xs.length)/\EFY w' w.heap.size (some ⟨w.heap.size,0,none⟩) xs/\Below w.heap.size w w':=by
 obtain⟨hn,hc⟩:=hx;obtain⟨i0,hi,hz0,hz1,hz2⟩:=info_parts infoTExFrame;go_enter Tryz.func175,Tryz.ntmps175
 go_wp2_with (first | (at_make;refine wpList_make_full _ rfl _ _ 172 rfl w.heap.size 227 i0 (.agg #[.int .i64 0,.int .i64 0,.slice none 0 0,.slice none 0 0]) 4 Tryz.underlying172 hi hz0 hz1 _ _ _ _ xs.length rfl rfl rfl rfl (by rw[hz2];omega) (by unfold maxLen;omega) nL ?_;intro w1 hown hgrow))
 obtain⟨cur0,hblk,hsz⟩:=aR hown;have hb0:Below w.heap.size w w1:=gM.grown hgrow nL (by intro k hk;cases hk);clear hown hgrow hi hz0 hz1 hz2;go_loopw [4] (fun i wr=>∃(k:Nat) (cur:Array Value),k<=xs.length/\i=.int .i64 k/\wr.heap[w.heap.size]?=some (.cells cur 227 (0,0))/\cur.size=xs.length*4/\(∀j (hj:j<xs.length),j<k->∃g0 g1,cur[j*4]?=some (.int .i64 xs[j].fn)/\cur[j*4+1]?=some (.int .i64 xs[j].pc)/\cur[j*4+2]?=some (.slice (some ⟨g0,0,none⟩) xs[j].locals.length xs[j].locals.length)/\cur[j*4+3]?=some (.slice (some ⟨g1,0,none⟩) xs[j].stack.length xs[j].stack.length)/\SrY wr (w.heap.size+1) (some ⟨g0,0,none⟩) xs[j].locals/\SrY wr (w.heap.size+1) (some ⟨g1,0,none⟩) xs[j].stack)/\Below w.heap.size w wr) (fun i _=>xs.length-(intOf i).toNat)
 case atStart=>exact⟨0,cur0,by omega,rfl,hblk,hsz,fun j _ h=>by omega,hb0⟩
 case round=>
  obtain⟨k,cur,hk,rfl,hblk,hsz,hdone,hb⟩:=hrel;by_cases hlt:k<xs.length
  ·obtain⟨b,off,a0,c0,a1,c1,rfl,-,d0,d1,d2,d3,p0,p1⟩:=hm k hlt;have e0:=cell_later hb d0;have e1:=cell_later hb d1;have e2:=cell_later hb d2;have e3:=cell_later hb d3;clear d0 d1 d2 d3;have hgs:w.heap.size<wr.heap.size:=aq hblk;have hc0:=(hc xs[k] (n_l hlt)).1;have hc1:=(hc xs[k] (n_l hlt)).2;go_wp2_with fail
   refine (toExFrame_b xs[k] _ _ _ _ _ hc0 (p0.mono hb) hc1 (p1.mono hb)).mono ?_;rintro e w2 ⟨g0,g1,hg0,hg1,rfl,s0,s1,hb2⟩;have hblk2:=ab hblk hb2;have hfz:=am hblk2;have hcl0:w2.cell? ⟨w.heap.size,k*4,none⟩=some cur[k*4]:=by rw[aa hblk2];simp
   have hcl1:w2.cell? ⟨w.heap.size,k*4+1,none⟩=some cur[k*4+1]:=by rw[aa hblk2];simp
   have hcl2:w2.cell? ⟨w.heap.size,k*4+2,none⟩=some cur[k*4+2]:=by rw[aa hblk2];simp
   have hcl3:w2.cell? ⟨w.heap.size,k*4+3,none⟩=some cur[k*4+3]:=by rw[aa hblk2];simp
   have hb3:Below w.heap.size w w2:=hb.trans (hb2.mono hb.size);go_wp2;go_roundw
   case rel=>
    have hab:aL (w.heap.size+1) w2 ((((w2.setCell ⟨w.heap.size,k*4,none⟩ (.int .i64 xs[k].fn)).setCell ⟨w.heap.size,k*4+1,none⟩ (.int .i64 xs[k].pc)).setCell ⟨w.heap.size,k*4+2,none⟩ (.slice (some ⟨g0,0,none⟩) xs[k].locals.length xs[k].locals.length)).setCell ⟨w.heap.size,k*4+3,none⟩ (.slice (some ⟨g1,0,none⟩) xs[k].stack.length xs[k].stack.length)):=(((((aL.refl _ _).setCell (by simp) _).setCell (by simp) _).setCell (by simp) _).setCell (by simp) _);refine⟨k+1,((((cur.setIfInBounds (k*4) (.int .i64 xs[k].fn)).setIfInBounds (k*4+1) (.int .i64 xs[k].pc)).setIfInBounds (k*4+2) (.slice (some ⟨g0,0,none⟩) xs[k].locals.length xs[k].locals.length)).setIfInBounds (k*4+3) (.slice (some ⟨g1,0,none⟩) xs[k].stack.length xs[k].stack.length)),by omega,by go_num,(ao (ao (ao (ao hblk2 _) _) _) _),by simpa using hsz,?_,((((hb3.setCell nL _).setCell nL _).setCell nL _).setCell nL _)⟩;intro j hj hjk;by_cases e:j=k
    ·subst e;refine⟨g0,g1,?_,?_,?_,?_,(s0.low (by omega)).above hab,(s1.low (by omega)).above hab⟩
     ·rw[ac _ (by omega),ac _ (by omega),ac _ (by omega)];exact az _ (by first | omega | (simp;omega))
     ·rw[ac _ (by omega),ac _ (by omega)];exact az _ (by first | omega | (simp;omega))
     ·rw[ac _ (by omega)];exact az _ (by first | omega | (simp;omega))
     ·exact az _ (by first | omega | (simp;omega))
    ·obtain⟨g0',g1',d0,d1,d2,d3,s0',s1'⟩:=hdone j hj (by omega);refine⟨g0',g1',?_,?_,?_,?_,(s0'.mono hb2).above hab,(s1'.mono hb2).above hab⟩
     ·rw[ac _ (by omega),ac _ (by omega),ac _ (by omega),ac _ (by omega)];exact d0
     ·rw[ac _ (by omega),ac _ (by omega),ac _ (by omega),ac _ (by omega)];exact d1
     ·rw[ac _ (by omega),ac _ (by omega),ac _ (by omega),ac _ (by omega)];exact d2
     ·rw[ac _ (by omega),ac _ (by omega),ac _ (by omega),ac _ (by omega)];exact d3
   case measure=>simp[intOf];omega
  ·go_wp2;go_ret
   refine⟨rfl,⟨fun j hj=>?_,w.heap.size,rfl,Nat.le_refl _,cur,hblk,hsz,fun j hj=>?_⟩,hb⟩
   ·obtain⟨g0',g1',d0,d1,d2,d3,s0',s1'⟩:=hdone j hj (by omega);exact⟨w.heap.size,0,some ⟨g0',0,none⟩,xs[j].locals.length,some ⟨g1',0,none⟩,xs[j].stack.length,rfl,Nat.le_refl _,by rw[aa hblk,Nat.zero_add];exact d0,by rw[aa hblk,Nat.zero_add];exact d1,by rw[aa hblk,Nat.zero_add];exact d2,by rw[aa hblk,Nat.zero_add];exact d3,s0'.at_.low (by omega),s1'.at_.low (by omega)⟩
   ·obtain⟨g0',g1',d0,d1,d2,d3,s0',s1'⟩:=hdone j hj (by omega);exact⟨by rw[d0];exact aW _ _,by rw[d1];exact aW _ _,g0',g1',d2,d3,s0'.of.low (by omega),s1'.of.low (by omega)⟩
theorem toExRec_b(x:ER)(a0:Option Addr)(c0:Nat)(w:World)(hn0:aU bC x.fields)(p0:bq w 0 a0 x.fields) :
  Calls Tryz.prog 201 #[.agg #[.slice a0 x.fields.length c0]] w fun e w'=>∃g0,w.heap.size<=g0/\e=.returned (.agg #[.slice (some ⟨g0,0,none⟩) x.fields.length x.fields.length])/\SrY w' w.heap.size (some ⟨g0,0,none⟩) x.fields/\Below w.heap.size w w':=by
 have hbA:Below w.heap.size w (((w.alloc (.cells #[.slice a0 x.fields.length c0] 323)).alloc (.cells #[.slice none 0 0] 230)).alloc (.cells #[.slice none 0 0] 230)):=((gM.alloc nL _).alloc (by simp) _).alloc (by simp;omega) _;have hI0:=al (al (ah w #[.slice a0 x.fields.length c0] 323) (.cells #[.slice none 0 0] 230)) (.cells #[.slice none 0 0] 230);have hR0:=al (ah (w.alloc (.cells #[.slice a0 x.fields.length c0] 323)) #[.slice none 0 0] 230) (.cells #[.slice none 0 0] 230);have hO0:=ah ((w.alloc (.cells #[.slice a0 x.fields.length c0] 323)).alloc (.cells #[.slice none 0 0] 230)) #[.slice none 0 0] 230;simp only[World.size_alloc] at hR0 hO0
 go_enter Tryz.func201,Tryz.ntmps201
 go_wp2_with fail
 refine (fg a0 x.fields c0 _ hn0 (p0.mono hbA)).mono ?_;rintro e w1 ⟨rfl,hnew,hbn⟩;have hI1:=ab hI0 hbn;have hR1:=ab hR0 hbn;have hO1:=ab hO0 hbn;have hB1:=hbA.trans (hbn.mono hbA.size);simp only[World.size_alloc] at hnew
 have q0:=hnew;clear hI0 hR0 hO0 hbA hbn hnew;have i1:=aa hI1;have r1:=aa hR1;have r2:=am hR1;have o1:=aa hO1;have o2:=am hO1;have hzy:w.heap.size+1+1<w1.heap.size:=aq hO1;go_wp2;refine bodyPost_ret (v:=.agg #[.slice (some ⟨w.heap.size+1+1+1,0,none⟩) x.fields.length x.fields.length]) (by simp[results,Tryz.results201,go_sem,r1]) rfl ⟨_,by omega,rfl,?_,?_⟩
 ·exact (q0.above (((aL.refl _ _).setCell (by simp) _).setCell (by simp) _)).low (by omega)
 ·exact ((hB1.setCell (by simp;first | done | omega) _).setCell (by simp;first | done | omega) _)
theorem toExRecS_b(a:Option Addr)(xs:List ER)(cap:Nat)(w:World)(hx:aU cR xs)(hm:b8 w 0 a xs) :
  Calls Tryz.prog 176 #[.slice a xs.length cap] w fun e w'=>e=.returned (.slice (some ⟨w.heap.size,0,none⟩) xs.length xs.length)/\ERY w' w.heap.size (some ⟨w.heap.size,0,none⟩) xs/\Below w.heap.size w w':=by
 obtain⟨hn,hc⟩:=hx;obtain⟨i0,hi,hz0,hz1,hz2⟩:=info_parts infoTExRec;go_enter Tryz.func176,Tryz.ntmps176
 go_wp2_with (first | (at_make;refine wpList_make_full _ rfl _ _ 173 rfl w.heap.size 230 i0 (.agg #[.slice none 0 0]) 1 Tryz.underlying173 hi hz0 hz1 _ _ _ _ xs.length rfl rfl rfl rfl (by rw[hz2];omega) (by unfold maxLen;omega) nL ?_;intro w1 hown hgrow))
 obtain⟨cur0,hblk,hsz⟩:=aR hown;have hb0:Below w.heap.size w w1:=gM.grown hgrow nL (by intro k hk;cases hk);clear hown hgrow hi hz0 hz1 hz2;go_loopw [4] (fun i wr=>∃(k:Nat) (cur:Array Value),k<=xs.length/\i=.int .i64 k/\wr.heap[w.heap.size]?=some (.cells cur 230 (0,0))/\cur.size=xs.length*1/\(∀j (hj:j<xs.length),j<k->∃g0,cur[j]?=some (.slice (some ⟨g0,0,none⟩) xs[j].fields.length xs[j].fields.length)/\SrY wr (w.heap.size+1) (some ⟨g0,0,none⟩) xs[j].fields)/\Below w.heap.size w wr) (fun i _=>xs.length-(intOf i).toNat)
 case atStart=>exact⟨0,cur0,by omega,rfl,hblk,hsz,fun j _ h=>by omega,hb0⟩
 case round=>
  obtain⟨k,cur,hk,rfl,hblk,hsz,hdone,hb⟩:=hrel;by_cases hlt:k<xs.length
  ·obtain⟨b,off,a0,c0,rfl,-,d0,p0⟩:=hm k hlt;have e0:=cell_later hb d0;clear d0;have hgs:w.heap.size<wr.heap.size:=aq hblk;have hc0:=(hc xs[k] (n_l hlt));go_wp2_with fail
   refine (toExRec_b xs[k] _ _ _ hc0 (p0.mono hb)).mono ?_;rintro e w2 ⟨g0,hg0,rfl,s0,hb2⟩;have hblk2:=ab hblk hb2;have hfz:=am hblk2;have hcl0:w2.cell? ⟨w.heap.size,k,none⟩=some cur[k]:=by rw[aa hblk2];simp
   have hb3:Below w.heap.size w w2:=hb.trans (hb2.mono hb.size);go_wp2;go_roundw
   case rel=>
    have hab:aL (w.heap.size+1) w2 (w2.setCell ⟨w.heap.size,k,none⟩ (.slice (some ⟨g0,0,none⟩) xs[k].fields.length xs[k].fields.length)):=((aL.refl _ _).setCell (by simp) _);refine⟨k+1,(cur.setIfInBounds (k) (.slice (some ⟨g0,0,none⟩) xs[k].fields.length xs[k].fields.length)),by omega,by go_num,(ao hblk2 _),by simpa using hsz,?_,(hb3.setCell nL _)⟩;intro j hj hjk;by_cases e:j=k
    ·subst e;refine⟨g0,?_,(s0.low (by omega)).above hab⟩
     ·exact az _ (by first | omega | (simp;omega))
    ·obtain⟨g0',d0,s0'⟩:=hdone j hj (by omega);refine⟨g0',?_,(s0'.mono hb2).above hab⟩
     ·rw[ac _ (by omega)];exact d0
   case measure=>simp[intOf];omega
  ·go_wp2;go_ret
   refine⟨rfl,⟨fun j hj=>?_,w.heap.size,rfl,Nat.le_refl _,cur,hblk,hsz,fun j hj=>?_⟩,hb⟩
   ·obtain⟨g0',d0,s0'⟩:=hdone j hj (by omega);exact⟨w.heap.size,0,some ⟨g0',0,none⟩,xs[j].fields.length,rfl,Nat.le_refl _,by rw[aa hblk,Nat.zero_add];exact d0,s0'.at_.low (by omega)⟩
   ·obtain⟨g0',d0,s0'⟩:=hdone j hj (by omega);exact⟨g0',d0,s0'.of.low (by omega)⟩
theorem toExit_b(x:Ex)(a0:Option Addr)(c0:Nat)(a1:Option Addr)(c1:Nat)(w:World)(hn0:aU cz x.frames)(p0:bZ w 0 a0 x.frames)(hn1:aU cR x.recs)(p1:b8 w 0 a1 x.recs) :
  Calls Tryz.prog 144 #[.agg #[.int .i64 x.kind,.int .i64 x.spec.f,.int .i64 x.spec.pc,.int .i64 x.spec.seen,.int .i64 x.spec.target,.slice a0 x.frames.length c0,.slice a1 x.recs.length c1]] w fun e w'=>∃g0 g1,w.heap.size<=g0/\w.heap.size<=g1/\e=.returned (.agg #[.int .i64 x.kind,.int .i64 x.spec.f,.int .i64 x.spec.pc,.int .i64 x.spec.seen,.int .i64 x.spec.target,.slice (some ⟨g0,0,none⟩) x.frames.length x.frames.length,.slice (some ⟨g1,0,none⟩) x.recs.length x.recs.length])/\EFY w' w.heap.size (some ⟨g0,0,none⟩) x.frames/\ERY w' w.heap.size (some ⟨g1,0,none⟩) x.recs/\Below w.heap.size w w':=by
 have hbA:Below w.heap.size w (((w.alloc (.cells #[.int .i64 x.kind,.int .i64 x.spec.f,.int .i64 x.spec.pc,.int .i64 x.spec.seen,.int .i64 x.spec.target,.slice a0 x.frames.length c0,.slice a1 x.recs.length c1] 219)).alloc (.cells #[.int .i64 0,.int .i64 0,.int .i64 0,.int .i64 0,.int .i64 0,.slice none 0 0,.slice none 0 0] 175)).alloc (.cells #[.int .i64 x.kind,.int .i64 0,.int .i64 0,.int .i64 0,.int .i64 0,.slice none 0 0,.slice none 0 0] 175)):=((gM.alloc nL _).alloc (by simp) _).alloc (by simp;omega) _;have hI0:=al (al (ah w #[.int .i64 x.kind,.int .i64 x.spec.f,.int .i64 x.spec.pc,.int .i64 x.spec.seen,.int .i64 x.spec.target,.slice a0 x.frames.length c0,.slice a1 x.recs.length c1] 219) (.cells #[.int .i64 0,.int .i64 0,.int .i64 0,.int .i64 0,.int .i64 0,.slice none 0 0,.slice none 0 0] 175)) (.cells #[.int .i64 x.kind,.int .i64 0,.int .i64 0,.int .i64 0,.int .i64 0,.slice none 0 0,.slice none 0 0] 175);have hR0:=al (ah (w.alloc (.cells #[.int .i64 x.kind,.int .i64 x.spec.f,.int .i64 x.spec.pc,.int .i64 x.spec.seen,.int .i64 x.spec.target,.slice a0 x.frames.length c0,.slice a1 x.recs.length c1] 219)) #[.int .i64 0,.int .i64 0,.int .i64 0,.int .i64 0,.int .i64 0,.slice none 0 0,.slice none 0 0] 175) (.cells #[.int .i64 x.kind,.int .i64 0,.int .i64 0,.int .i64 0,.int .i64 0,.slice none 0 0,.slice none 0 0] 175);have hO0:=ah ((w.alloc (.cells #[.int .i64 x.kind,.int .i64 x.spec.f,.int .i64 x.spec.pc,.int .i64 x.spec.seen,.int .i64 x.spec.target,.slice a0 x.frames.length c0,.slice a1 x.recs.length c1] 219)).alloc (.cells #[.int .i64 0,.int .i64 0,.int .i64 0,.int .i64 0,.int .i64 0,.slice none 0 0,.slice none 0 0] 175)) #[.int .i64 x.kind,.int .i64 0,.int .i64 0,.int .i64 0,.int .i64 0,.slice none 0 0,.slice none 0 0] 175
 simp only[World.size_alloc] at hR0 hO0
 go_enter Tryz.func144,Tryz.ntmps144
 go_wp2_with fail
 refine (toSpec_any _ _ _ _ _).mono ?_;rintro e w1 ⟨rfl,hbn⟩;have hI1:=ab hI0 hbn;have hR1:=ab hR0 hbn;have hO1:=ab hO0 hbn;have hB1:=hbA.trans (hbn.mono hbA.size);clear hI0 hR0 hO0 hbA hbn;obtain⟨x1,hx1⟩:∃x1,x1=((((w1.setCell ⟨w.heap.size+1+1,1,none⟩ (.int .i64 x.spec.f)).setCell ⟨w.heap.size+1+1,2,none⟩ (.int .i64 x.spec.pc)).setCell ⟨w.heap.size+1+1,3,none⟩ (.int .i64 x.spec.seen)).setCell ⟨w.heap.size+1+1,4,none⟩ (.int .i64 x.spec.target)):=⟨_,rfl⟩;have hOx:x1.heap[w.heap.size+1+1]?=some (.cells #[.int .i64 x.kind,.int .i64 x.spec.f,.int .i64 x.spec.pc,.int .i64 x.spec.seen,.int .i64 x.spec.target,.slice none 0 0,.slice none 0 0] 175 (0,0)):=by rw[hx1];simpa using (ao (i:=4) (ao (i:=3) (ao (i:=2) (ao (i:=1) hO1 (.int .i64 x.spec.f)) (.int .i64 x.spec.pc)) (.int .i64 x.spec.seen)) (.int .i64 x.spec.target))
 have hRx:x1.heap[w.heap.size+1]?=some (.cells #[.int .i64 0,.int .i64 0,.int .i64 0,.int .i64 0,.int .i64 0,.slice none 0 0,.slice none 0 0] 175 (0,0)):=by rw[hx1,Below.heap_setCell _ _ _ _ (by simp),Below.heap_setCell _ _ _ _ (by simp),Below.heap_setCell _ _ _ _ (by simp),Below.heap_setCell _ _ _ _ (by simp)];exact hR1
 have hIx:x1.heap[w.heap.size]?=some (.cells #[.int .i64 x.kind,.int .i64 x.spec.f,.int .i64 x.spec.pc,.int .i64 x.spec.seen,.int .i64 x.spec.target,.slice a0 x.frames.length c0,.slice a1 x.recs.length c1] 219 (0,0)):=by rw[hx1,Below.heap_setCell _ _ _ _ (by simp;omega),Below.heap_setCell _ _ _ _ (by simp;omega),Below.heap_setCell _ _ _ _ (by simp;omega),Below.heap_setCell _ _ _ _ (by simp;omega)];exact hI1
 have hBx:Below w.heap.size w x1:=by rw[hx1];exact ((((hB1.setCell (by simp;omega) _).setCell (by simp;omega) _).setCell (by simp;omega) _).setCell (by simp;omega) _)
 have hzx:w.heap.size+1+1+1<=x1.heap.size:=aq hOx;have i1:=aa hI1;have o1:=aa hO1;have o2:=am hO1;go_wp2_with fail
 rw[<-hx1];clear hx1 i1 o1 o2 hI1 hR1 hO1 hB1;refine (toExFrameS_b a0 x.frames c0 _ hn0 (p0.mono hBx)).mono ?_;rintro e w2 ⟨rfl,hnew,hbn⟩;have hI2:=ab hIx hbn;have hR2:=ab hRx hbn;have hO2:=ab hOx hbn;have hB2:=hBx.trans (hbn.mono hBx.size);have q0:=hnew.low hzx;clear hIx hRx hOx hBx hbn hnew;obtain⟨x2,hx2⟩:∃x2,x2=(w2.setCell ⟨w.heap.size+1+1,5,none⟩ (.slice (some ⟨x1.heap.size,0,none⟩) x.frames.length x.frames.length)):=⟨_,rfl⟩;have hOx:x2.heap[w.heap.size+1+1]?=some (.cells #[.int .i64 x.kind,.int .i64 x.spec.f,.int .i64 x.spec.pc,.int .i64 x.spec.seen,.int .i64 x.spec.target,.slice (some ⟨x1.heap.size,0,none⟩) x.frames.length x.frames.length,.slice none 0 0] 175 (0,0)):=by rw[hx2];simpa using (ao (i:=5) hO2 (.slice (some ⟨x1.heap.size,0,none⟩) x.frames.length x.frames.length))
 have hRx:x2.heap[w.heap.size+1]?=some (.cells #[.int .i64 0,.int .i64 0,.int .i64 0,.int .i64 0,.int .i64 0,.slice none 0 0,.slice none 0 0] 175 (0,0)):=by rw[hx2,Below.heap_setCell _ _ _ _ (by simp)];exact hR2
 have hIx:x2.heap[w.heap.size]?=some (.cells #[.int .i64 x.kind,.int .i64 x.spec.f,.int .i64 x.spec.pc,.int .i64 x.spec.seen,.int .i64 x.spec.target,.slice a0 x.frames.length c0,.slice a1 x.recs.length c1] 219 (0,0)):=by rw[hx2,Below.heap_setCell _ _ _ _ (by simp;omega)];exact hI2
 have hBx:Below w.heap.size w x2:=by rw[hx2];exact (hB2.setCell (by simp;omega) _)
 have hzx:w.heap.size+1+1+1<=x2.heap.size:=aq hOx;have q0x:=q0.above (w':=x2) (by rw[hx2];exact ((aL.refl _ _).setCell (by simp) _));have i1:=aa hI2;have o1:=aa hO2;have o2:=am hO2;go_wp2_with fail
 rw[<-hx2];clear hx2 i1 o1 o2 hI2 hR2 hO2 hB2 q0;refine (toExRecS_b a1 x.recs c1 _ hn1 (p1.mono hBx)).mono ?_;rintro e w3 ⟨rfl,hnew,hbn⟩;have hI3:=ab hIx hbn;have hR3:=ab hRx hbn;have hO3:=ab hOx hbn;have hB3:=hBx.trans (hbn.mono hBx.size);have q0:=q0x.mono hbn;have q1:=hnew.low hzx;clear hIx hRx hOx hBx hbn q0x hnew;have i1:=aa hI3;have r1:=aa hR3;have r2:=am hR3;have o1:=aa hO3;have o2:=am hO3;have hzy:w.heap.size+1+1<w3.heap.size:=aq hO3;go_wp2;refine bodyPost_ret (v:=.agg #[.int .i64 x.kind,.int .i64 x.spec.f,.int .i64 x.spec.pc,.int .i64 x.spec.seen,.int .i64 x.spec.target,.slice (some ⟨x1.heap.size,0,none⟩) x.frames.length x.frames.length,.slice (some ⟨x2.heap.size,0,none⟩) x.recs.length x.recs.length]) (by simp[results,Tryz.results144,go_sem,r1]) rfl ⟨_,_,by omega,by omega,rfl,?_,?_,?_⟩
 ·exact (q0.above (((((((((aL.refl _ _).setCell (by simp) _).setCell (by simp) _).setCell (by simp) _).setCell (by simp) _).setCell (by simp) _).setCell (by simp) _).setCell (by simp) _).setCell (by simp) _)).low (by omega)
 ·exact (q1.above (((((((((aL.refl _ _).setCell (by simp) _).setCell (by simp) _).setCell (by simp) _).setCell (by simp) _).setCell (by simp) _).setCell (by simp) _).setCell (by simp) _).setCell (by simp) _)).low (by omega)
 ·exact ((((((((hB3.setCell (by simp;first | done | omega) _).setCell (by simp;first | done | omega) _).setCell (by simp;first | done | omega) _).setCell (by simp;first | done | omega) _).setCell (by simp;first | done | omega) _).setCell (by simp;first | done | omega) _).setCell (by simp;first | done | omega) _).setCell (by simp;first | done | omega) _)
theorem toExitS_b(a:Option Addr)(xs:List Ex)(cap:Nat)(w:World)(hx:aU ck xs)(hm:bV w 0 a xs) :
  Calls Tryz.prog 99 #[.slice a xs.length cap] w fun e w'=>e=.returned (.slice (some ⟨w.heap.size,0,none⟩) xs.length xs.length)/\ExY w' w.heap.size (some ⟨w.heap.size,0,none⟩) xs/\Below w.heap.size w w':=by
 obtain⟨hn,hc⟩:=hx;obtain⟨i0,hi,hz0,hz1,hz2⟩:=info_parts infoTExit;go_enter Tryz.func99,Tryz.ntmps99
 go_wp2_with (first | (at_make;refine wpList_make_full _ rfl _ _ 99 rfl w.heap.size 175 i0 (.agg #[.int .i64 0,.int .i64 0,.int .i64 0,.int .i64 0,.int .i64 0,.slice none 0 0,.slice none 0 0]) 7 Tryz.underlying99 hi hz0 hz1 _ _ _ _ xs.length rfl rfl rfl rfl (by rw[hz2];omega) (by unfold maxLen;omega) nL ?_;intro w1 hown hgrow))
 obtain⟨cur0,hblk,hsz⟩:=aR hown;have hb0:Below w.heap.size w w1:=gM.grown hgrow nL (by intro k hk;cases hk);clear hown hgrow hi hz0 hz1 hz2;go_loopw [4] (fun i wr=>∃(k:Nat) (cur:Array Value),k<=xs.length/\i=.int .i64 k/\wr.heap[w.heap.size]?=some (.cells cur 175 (0,0))/\cur.size=xs.length*7/\(∀j (hj:j<xs.length),j<k->∃g0 g1,cur[j*7]?=some (.int .i64 xs[j].kind)/\cur[j*7+1]?=some (.int .i64 xs[j].spec.f)/\cur[j*7+2]?=some (.int .i64 xs[j].spec.pc)/\cur[j*7+3]?=some (.int .i64 xs[j].spec.seen)/\cur[j*7+4]?=some (.int .i64 xs[j].spec.target)/\cur[j*7+5]?=some (.slice (some ⟨g0,0,none⟩) xs[j].frames.length xs[j].frames.length)/\cur[j*7+6]?=some (.slice (some ⟨g1,0,none⟩) xs[j].recs.length xs[j].recs.length)/\EFY wr (w.heap.size+1) (some ⟨g0,0,none⟩) xs[j].frames/\ERY wr (w.heap.size+1) (some ⟨g1,0,none⟩) xs[j].recs)/\Below w.heap.size w wr) (fun i _=>xs.length-(intOf i).toNat)
 case atStart=>exact⟨0,cur0,by omega,rfl,hblk,hsz,fun j _ h=>by omega,hb0⟩
 case round=>
  obtain⟨k,cur,hk,rfl,hblk,hsz,hdone,hb⟩:=hrel;by_cases hlt:k<xs.length
  ·obtain⟨b,off,a0,c0,a1,c1,rfl,-,d0,d1,d2,d3,d4,d5,d6,p0,p1⟩:=hm k hlt;have e0:=cell_later hb d0;have e1:=cell_later hb d1;have e2:=cell_later hb d2;have e3:=cell_later hb d3;have e4:=cell_later hb d4;have e5:=cell_later hb d5;have e6:=cell_later hb d6;clear d0 d1 d2 d3 d4 d5 d6;have hgs:w.heap.size<wr.heap.size:=aq hblk;have hc0:=(hc xs[k] (n_l hlt)).1;have hc1:=(hc xs[k] (n_l hlt)).2;go_wp2_with fail
   refine (toExit_b xs[k] _ _ _ _ _ hc0 (p0.mono hb) hc1 (p1.mono hb)).mono ?_;rintro e w2 ⟨g0,g1,hg0,hg1,rfl,s0,s1,hb2⟩;have hblk2:=ab hblk hb2;have hfz:=am hblk2;have hcl0:w2.cell? ⟨w.heap.size,k*7,none⟩=some cur[k*7]:=by rw[aa hblk2];simp
   have hcl1:w2.cell? ⟨w.heap.size,k*7+1,none⟩=some cur[k*7+1]:=by rw[aa hblk2];simp
   have hcl2:w2.cell? ⟨w.heap.size,k*7+2,none⟩=some cur[k*7+2]:=by rw[aa hblk2];simp
   have hcl3:w2.cell? ⟨w.heap.size,k*7+3,none⟩=some cur[k*7+3]:=by rw[aa hblk2];simp
   have hcl4:w2.cell? ⟨w.heap.size,k*7+4,none⟩=some cur[k*7+4]:=by rw[aa hblk2];simp
   have hcl5:w2.cell? ⟨w.heap.size,k*7+5,none⟩=some cur[k*7+5]:=by rw[aa hblk2];simp
   have hcl6:w2.cell? ⟨w.heap.size,k*7+6,none⟩=some cur[k*7+6]:=by rw[aa hblk2];simp
   have hb3:Below w.heap.size w w2:=hb.trans (hb2.mono hb.size);go_wp2;go_roundw
   case rel=>
    have hab:aL (w.heap.size+1) w2 (((((((w2.setCell ⟨w.heap.size,k*7,none⟩ (.int .i64 xs[k].kind)).setCell ⟨w.heap.size,k*7+1,none⟩ (.int .i64 xs[k].spec.f)).setCell ⟨w.heap.size,k*7+2,none⟩ (.int .i64 xs[k].spec.pc)).setCell ⟨w.heap.size,k*7+3,none⟩ (.int .i64 xs[k].spec.seen)).setCell ⟨w.heap.size,k*7+4,none⟩ (.int .i64 xs[k].spec.target)).setCell ⟨w.heap.size,k*7+5,none⟩ (.slice (some ⟨g0,0,none⟩) xs[k].frames.length xs[k].frames.length)).setCell ⟨w.heap.size,k*7+6,none⟩ (.slice (some ⟨g1,0,none⟩) xs[k].recs.length xs[k].recs.length)):=((((((((aL.refl _ _).setCell (by simp) _).setCell (by simp) _).setCell (by simp) _).setCell (by simp) _).setCell (by simp) _).setCell (by simp) _).setCell (by simp) _);refine⟨k+1,(((((((cur.setIfInBounds (k*7) (.int .i64 xs[k].kind)).setIfInBounds (k*7+1) (.int .i64 xs[k].spec.f)).setIfInBounds (k*7+2) (.int .i64 xs[k].spec.pc)).setIfInBounds (k*7+3) (.int .i64 xs[k].spec.seen)).setIfInBounds (k*7+4) (.int .i64 xs[k].spec.target)).setIfInBounds (k*7+5) (.slice (some ⟨g0,0,none⟩) xs[k].frames.length xs[k].frames.length)).setIfInBounds (k*7+6) (.slice (some ⟨g1,0,none⟩) xs[k].recs.length xs[k].recs.length)),by omega,by go_num,(ao (ao (ao (ao (ao (ao (ao hblk2 _) _) _) _) _) _) _),by simpa using hsz,?_,(((((((hb3.setCell nL _).setCell nL _).setCell nL _).setCell nL _).setCell nL _).setCell nL _).setCell nL _)⟩;intro j hj hjk;by_cases e:j=k
    ·subst e;refine⟨g0,g1,?_,?_,?_,?_,?_,?_,?_,(s0.low (by omega)).above hab,(s1.low (by omega)).above hab⟩
     ·rw[ac _ (by omega),ac _ (by omega),ac _ (by omega),ac _ (by omega),ac _ (by omega),ac _ (by omega)];exact az _ (by first | omega | (simp;omega))
     ·rw[ac _ (by omega),ac _ (by omega),ac _ (by omega),ac _ (by omega),ac _ (by omega)];exact az _ (by first | omega | (simp;omega))
     ·rw[ac _ (by omega),ac _ (by omega),ac _ (by omega),ac _ (by omega)];exact az _ (by first | omega | (simp;omega))
     ·rw[ac _ (by omega),ac _ (by omega),ac _ (by omega)];exact az _ (by first | omega | (simp;omega))
     ·rw[ac _ (by omega),ac _ (by omega)];exact az _ (by first | omega | (simp;omega))
     ·rw[ac _ (by omega)];exact az _ (by first | omega | (simp;omega))
     ·exact az _ (by first | omega | (simp;omega))
    ·obtain⟨g0',g1',d0,d1,d2,d3,d4,d5,d6,s0',s1'⟩:=hdone j hj (by omega);refine⟨g0',g1',?_,?_,?_,?_,?_,?_,?_,(s0'.mono hb2).above hab,(s1'.mono hb2).above hab⟩
     ·rw[ac _ (by omega),ac _ (by omega),ac _ (by omega),ac _ (by omega),ac _ (by omega),ac _ (by omega),ac _ (by omega)];exact d0
     ·rw[ac _ (by omega),ac _ (by omega),ac _ (by omega),ac _ (by omega),ac _ (by omega),ac _ (by omega),ac _ (by omega)];exact d1
     ·rw[ac _ (by omega),ac _ (by omega),ac _ (by omega),ac _ (by omega),ac _ (by omega),ac _ (by omega),ac _ (by omega)];exact d2
     ·rw[ac _ (by omega),ac _ (by omega),ac _ (by omega),ac _ (by omega),ac _ (by omega),ac _ (by omega),ac _ (by omega)];exact d3
     ·rw[ac _ (by omega),ac _ (by omega),ac _ (by omega),ac _ (by omega),ac _ (by omega),ac _ (by omega),ac _ (by omega)];exact d4
     ·rw[ac _ (by omega),ac _ (by omega),ac _ (by omega),ac _ (by omega),ac _ (by omega),ac _ (by omega),ac _ (by omega)];exact d5
     ·rw[ac _ (by omega),ac _ (by omega),ac _ (by omega),ac _ (by omega),ac _ (by omega),ac _ (by omega),ac _ (by omega)];exact d6
   case measure=>simp[intOf];omega
  ·go_wp2;go_ret
   refine⟨rfl,⟨fun j hj=>?_,w.heap.size,rfl,Nat.le_refl _,cur,hblk,hsz,fun j hj=>?_⟩,hb⟩
   ·obtain⟨g0',g1',d0,d1,d2,d3,d4,d5,d6,s0',s1'⟩:=hdone j hj (by omega);exact⟨w.heap.size,0,some ⟨g0',0,none⟩,xs[j].frames.length,some ⟨g1',0,none⟩,xs[j].recs.length,rfl,Nat.le_refl _,by rw[aa hblk,Nat.zero_add];exact d0,by rw[aa hblk,Nat.zero_add];exact d1,by rw[aa hblk,Nat.zero_add];exact d2,by rw[aa hblk,Nat.zero_add];exact d3,by rw[aa hblk,Nat.zero_add];exact d4,by rw[aa hblk,Nat.zero_add];exact d5,by rw[aa hblk,Nat.zero_add];exact d6,s0'.at_.low (by omega),s1'.at_.low (by omega)⟩
   ·obtain⟨g0',g1',d0,d1,d2,d3,d4,d5,d6,s0',s1'⟩:=hdone j hj (by omega);exact⟨by rw[d0];exact aW _ _,by rw[d1];exact aW _ _,by rw[d2];exact aW _ _,by rw[d3];exact aW _ _,by rw[d4];exact aW _ _,g0',g1',d5,d6,s0'.of.low (by omega),s1'.of.low (by omega)⟩
theorem toFOp_b(x:Fo)(w:World) :
  Calls Tryz.prog 143 #[.agg #[.int .i64 x.op,.int .i64 x.d,.int .i64 x.a,.int .i64 x.b,.int .i64 x.x,.int .i64 x.f,.int .i64 x.p,.int .i64 x.v.k,.int .i64 x.v.n,.string x.v.s]] w fun e w'=>e=.returned (.agg #[.int .i64 x.op,.int .i64 x.d,.int .i64 x.a,.int .i64 x.b,.int .i64 x.x,.int .i64 x.f,.int .i64 x.p,.int .i64 x.v.k,.int .i64 x.v.n,.string x.v.s])/\Below w.heap.size w w':=by
 have hbA:Below w.heap.size w (((w.alloc (.cells #[.int .i64 x.op,.int .i64 x.d,.int .i64 x.a,.int .i64 x.b,.int .i64 x.x,.int .i64 x.f,.int .i64 x.p,.int .i64 x.v.k,.int .i64 x.v.n,.string x.v.s] 213)).alloc (.cells #[.int .i64 0,.int .i64 0,.int .i64 0,.int .i64 0,.int .i64 0,.int .i64 0,.int .i64 0,.int .i64 0,.int .i64 0,.string ⟨#[]⟩] 177)).alloc (.cells #[.int .i64 x.op,.int .i64 x.d,.int .i64 x.a,.int .i64 x.b,.int .i64 x.x,.int .i64 x.f,.int .i64 x.p,.int .i64 0,.int .i64 0,.string ⟨#[]⟩] 177)):=((gM.alloc nL _).alloc (by simp) _).alloc (by simp;omega) _;have hI0:=al (al (ah w #[.int .i64 x.op,.int .i64 x.d,.int .i64 x.a,.int .i64 x.b,.int .i64 x.x,.int .i64 x.f,.int .i64 x.p,.int .i64 x.v.k,.int .i64 x.v.n,.string x.v.s] 213) (.cells #[.int .i64 0,.int .i64 0,.int .i64 0,.int .i64 0,.int .i64 0,.int .i64 0,.int .i64 0,.int .i64 0,.int .i64 0,.string ⟨#[]⟩] 177)) (.cells #[.int .i64 x.op,.int .i64 x.d,.int .i64 x.a,.int .i64 x.b,.int .i64 x.x,.int .i64 x.f,.int .i64 x.p,.int .i64 0,.int .i64 0,.string ⟨#[]⟩] 177);have hR0:=al (ah (w.alloc (.cells #[.int .i64 x.op,.int .i64 x.d,.int .i64 x.a,.int .i64 x.b,.int .i64 x.x,.int .i64 x.f,.int .i64 x.p,.int .i64 x.v.k,.int .i64 x.v.n,.string x.v.s] 213)) #[.int .i64 0,.int .i64 0,.int .i64 0,.int .i64 0,.int .i64 0,.int .i64 0,.int .i64 0,.int .i64 0,.int .i64 0,.string ⟨#[]⟩] 177) (.cells #[.int .i64 x.op,.int .i64 x.d,.int .i64 x.a,.int .i64 x.b,.int .i64 x.x,.int .i64 x.f,.int .i64 x.p,.int .i64 0,.int .i64 0,.string ⟨#[]⟩] 177)
 have hO0:=ah ((w.alloc (.cells #[.int .i64 x.op,.int .i64 x.d,.int .i64 x.a,.int .i64 x.b,.int .i64 x.x,.int .i64 x.f,.int .i64 x.p,.int .i64 x.v.k,.int .i64 x.v.n,.string x.v.s] 213)).alloc (.cells #[.int .i64 0,.int .i64 0,.int .i64 0,.int .i64 0,.int .i64 0,.int .i64 0,.int .i64 0,.int .i64 0,.int .i64 0,.string ⟨#[]⟩] 177)) #[.int .i64 x.op,.int .i64 x.d,.int .i64 x.a,.int .i64 x.b,.int .i64 x.x,.int .i64 x.f,.int .i64 x.p,.int .i64 0,.int .i64 0,.string ⟨#[]⟩] 177;simp only[World.size_alloc] at hR0 hO0
 go_enter Tryz.func143,Tryz.ntmps143
 go_wp2_with fail
 refine (cS _ _ _ _).mono ?_;rintro e w1 ⟨rfl,hbn⟩;have hI1:=ab hI0 hbn;have hR1:=ab hR0 hbn;have hO1:=ab hO0 hbn;have hB1:=hbA.trans (hbn.mono hbA.size);clear hI0 hR0 hO0 hbA hbn;have i1:=aa hI1;have r1:=aa hR1;have r2:=am hR1;have o1:=aa hO1;have o2:=am hO1;have hzy:w.heap.size+1+1<w1.heap.size:=aq hO1;go_wp2;refine bodyPost_ret (v:=.agg #[.int .i64 x.op,.int .i64 x.d,.int .i64 x.a,.int .i64 x.b,.int .i64 x.x,.int .i64 x.f,.int .i64 x.p,.int .i64 x.v.k,.int .i64 x.v.n,.string x.v.s]) (by simp[results,Tryz.results143,go_sem,r1]) rfl ⟨rfl,?_⟩
 ·exact (((((((((((((hB1.setCell (by simp;first | done | omega) _).setCell (by simp;first | done | omega) _).setCell (by simp;first | done | omega) _).setCell (by simp;first | done | omega) _).setCell (by simp;first | done | omega) _).setCell (by simp;first | done | omega) _).setCell (by simp;first | done | omega) _).setCell (by simp;first | done | omega) _).setCell (by simp;first | done | omega) _).setCell (by simp;first | done | omega) _).setCell (by simp;first | done | omega) _).setCell (by simp;first | done | omega) _).setCell (by simp;first | done | omega) _)
theorem toFOpS_b(a:Option Addr)(xs:List Fo)(cap:Nat)(w:World)(hx:aU cL xs)(hm:bS w 0 a xs) :
  Calls Tryz.prog 98 #[.slice a xs.length cap] w fun e w'=>e=.returned (.slice (some ⟨w.heap.size,0,none⟩) xs.length xs.length)/\FoY w' w.heap.size (some ⟨w.heap.size,0,none⟩) xs/\Below w.heap.size w w':=by
 obtain⟨hn,hc⟩:=hx;obtain⟨i0,hi,hz0,hz1,hz2⟩:=info_parts infoTFOp;go_enter Tryz.func98,Tryz.ntmps98
 go_wp2_with (first | (at_make;refine wpList_make_full _ rfl _ _ 98 rfl w.heap.size 177 i0 (.agg #[.int .i64 0,.int .i64 0,.int .i64 0,.int .i64 0,.int .i64 0,.int .i64 0,.int .i64 0,.int .i64 0,.int .i64 0,.string ByteArray.empty]) 10 Tryz.underlying98 hi hz0 hz1 _ _ _ _ xs.length rfl rfl rfl rfl (by rw[hz2];omega) (by unfold maxLen;omega) nL ?_;intro w1 hown hgrow))
 obtain⟨cur0,hblk,hsz⟩:=aR hown;have hb0:Below w.heap.size w w1:=gM.grown hgrow nL (by intro k hk;cases hk);clear hown hgrow hi hz0 hz1 hz2;go_loopw [4] (fun i wr=>∃(k:Nat) (cur:Array Value),k<=xs.length/\i=.int .i64 k/\wr.heap[w.heap.size]?=some (.cells cur 177 (0,0))/\cur.size=xs.length*10/\(∀j (hj:j<xs.length),j<k->cur[j*10]?=some (.int .i64 xs[j].op)/\cur[j*10+1]?=some (.int .i64 xs[j].d)/\cur[j*10+2]?=some (.int .i64 xs[j].a)/\cur[j*10+3]?=some (.int .i64 xs[j].b)/\cur[j*10+4]?=some (.int .i64 xs[j].x)/\cur[j*10+5]?=some (.int .i64 xs[j].f)/\cur[j*10+6]?=some (.int .i64 xs[j].p)/\cur[j*10+7]?=some (.int .i64 xs[j].v.k)/\cur[j*10+8]?=some (.int .i64 xs[j].v.n)/\cur[j*10+9]?=some (.string xs[j].v.s))/\Below w.heap.size w wr) (fun i _=>xs.length-(intOf i).toNat)
 case atStart=>exact⟨0,cur0,by omega,rfl,hblk,hsz,fun j _ h=>by omega,hb0⟩
 case round=>
  obtain⟨k,cur,hk,rfl,hblk,hsz,hdone,hb⟩:=hrel;by_cases hlt:k<xs.length
  ·obtain⟨b,off,rfl,-,d0,d1,d2,d3,d4,d5,d6,d7,d8,d9⟩:=hm k hlt;have e0:=cell_later hb d0;have e1:=cell_later hb d1;have e2:=cell_later hb d2;have e3:=cell_later hb d3;have e4:=cell_later hb d4;have e5:=cell_later hb d5;have e6:=cell_later hb d6;have e7:=cell_later hb d7;have e8:=cell_later hb d8;have e9:=cell_later hb d9;clear d0 d1 d2 d3 d4 d5 d6 d7 d8 d9;have hgs:w.heap.size<wr.heap.size:=aq hblk;go_wp2_with fail
   refine (toFOp_b xs[k] _).mono ?_;rintro e w2 ⟨rfl,hb2⟩;have hblk2:=ab hblk hb2;have hfz:=am hblk2;have hcl0:w2.cell? ⟨w.heap.size,k*10,none⟩=some cur[k*10]:=by rw[aa hblk2];simp
   have hcl1:w2.cell? ⟨w.heap.size,k*10+1,none⟩=some cur[k*10+1]:=by rw[aa hblk2];simp
   have hcl2:w2.cell? ⟨w.heap.size,k*10+2,none⟩=some cur[k*10+2]:=by rw[aa hblk2];simp
   have hcl3:w2.cell? ⟨w.heap.size,k*10+3,none⟩=some cur[k*10+3]:=by rw[aa hblk2];simp
   have hcl4:w2.cell? ⟨w.heap.size,k*10+4,none⟩=some cur[k*10+4]:=by rw[aa hblk2];simp
   have hcl5:w2.cell? ⟨w.heap.size,k*10+5,none⟩=some cur[k*10+5]:=by rw[aa hblk2];simp
   have hcl6:w2.cell? ⟨w.heap.size,k*10+6,none⟩=some cur[k*10+6]:=by rw[aa hblk2];simp
   have hcl7:w2.cell? ⟨w.heap.size,k*10+7,none⟩=some cur[k*10+7]:=by rw[aa hblk2];simp
   have hcl8:w2.cell? ⟨w.heap.size,k*10+8,none⟩=some cur[k*10+8]:=by rw[aa hblk2];simp
   have hcl9:w2.cell? ⟨w.heap.size,k*10+9,none⟩=some cur[k*10+9]:=by rw[aa hblk2];simp
   have hb3:Below w.heap.size w w2:=hb.trans (hb2.mono hb.size);go_wp2;go_roundw
   case rel=>
    have hab:aL (w.heap.size+1) w2 ((((((((((w2.setCell ⟨w.heap.size,k*10,none⟩ (.int .i64 xs[k].op)).setCell ⟨w.heap.size,k*10+1,none⟩ (.int .i64 xs[k].d)).setCell ⟨w.heap.size,k*10+2,none⟩ (.int .i64 xs[k].a)).setCell ⟨w.heap.size,k*10+3,none⟩ (.int .i64 xs[k].b)).setCell ⟨w.heap.size,k*10+4,none⟩ (.int .i64 xs[k].x)).setCell ⟨w.heap.size,k*10+5,none⟩ (.int .i64 xs[k].f)).setCell ⟨w.heap.size,k*10+6,none⟩ (.int .i64 xs[k].p)).setCell ⟨w.heap.size,k*10+7,none⟩ (.int .i64 xs[k].v.k)).setCell ⟨w.heap.size,k*10+8,none⟩ (.int .i64 xs[k].v.n)).setCell ⟨w.heap.size,k*10+9,none⟩ (.string xs[k].v.s)):=(((((((((((aL.refl _ _).setCell (by simp) _).setCell (by simp) _).setCell (by simp) _).setCell (by simp) _).setCell (by simp) _).setCell (by simp) _).setCell (by simp) _).setCell (by simp) _).setCell (by simp) _).setCell (by simp) _);refine⟨k+1,((((((((((cur.setIfInBounds (k*10) (.int .i64 xs[k].op)).setIfInBounds (k*10+1) (.int .i64 xs[k].d)).setIfInBounds (k*10+2) (.int .i64 xs[k].a)).setIfInBounds (k*10+3) (.int .i64 xs[k].b)).setIfInBounds (k*10+4) (.int .i64 xs[k].x)).setIfInBounds (k*10+5) (.int .i64 xs[k].f)).setIfInBounds (k*10+6) (.int .i64 xs[k].p)).setIfInBounds (k*10+7) (.int .i64 xs[k].v.k)).setIfInBounds (k*10+8) (.int .i64 xs[k].v.n)).setIfInBounds (k*10+9) (.string xs[k].v.s)),by omega,by go_num,(ao (ao (ao (ao (ao (ao (ao (ao (ao (ao hblk2 _) _) _) _) _) _) _) _) _) _),by simpa using hsz,?_,((((((((((hb3.setCell nL _).setCell nL _).setCell nL _).setCell nL _).setCell nL _).setCell nL _).setCell nL _).setCell nL _).setCell nL _).setCell nL _)⟩
    intro j hj hjk;by_cases e:j=k
    ·subst e;refine⟨?_,?_,?_,?_,?_,?_,?_,?_,?_,?_⟩
     ·rw[ac _ (by omega),ac _ (by omega),ac _ (by omega),ac _ (by omega),ac _ (by omega),ac _ (by omega),ac _ (by omega),ac _ (by omega),ac _ (by omega)];exact az _ (by first | omega | (simp;omega))
     ·rw[ac _ (by omega),ac _ (by omega),ac _ (by omega),ac _ (by omega),ac _ (by omega),ac _ (by omega),ac _ (by omega),ac _ (by omega)];exact az _ (by first | omega | (simp;omega))
     ·rw[ac _ (by omega),ac _ (by omega),ac _ (by omega),ac _ (by omega),ac _ (by omega),ac _ (by omega),ac _ (by omega)];exact az _ (by first | omega | (simp;omega))
     ·rw[ac _ (by omega),ac _ (by omega),ac _ (by omega),ac _ (by omega),ac _ (by omega),ac _ (by omega)];exact az _ (by first | omega | (simp;omega))
     ·rw[ac _ (by omega),ac _ (by omega),ac _ (by omega),ac _ (by omega),ac _ (by omega)];exact az _ (by first | omega | (simp;omega))
     ·rw[ac _ (by omega),ac _ (by omega),ac _ (by omega),ac _ (by omega)];exact az _ (by first | omega | (simp;omega))
     ·rw[ac _ (by omega),ac _ (by omega),ac _ (by omega)];exact az _ (by first | omega | (simp;omega))
     ·rw[ac _ (by omega),ac _ (by omega)];exact az _ (by first | omega | (simp;omega))
     ·rw[ac _ (by omega)];exact az _ (by first | omega | (simp;omega))
     ·exact az _ (by first | omega | (simp;omega))
    ·obtain⟨d0,d1,d2,d3,d4,d5,d6,d7,d8,d9⟩:=hdone j hj (by omega);refine⟨?_,?_,?_,?_,?_,?_,?_,?_,?_,?_⟩
     ·rw[ac _ (by omega),ac _ (by omega),ac _ (by omega),ac _ (by omega),ac _ (by omega),ac _ (by omega),ac _ (by omega),ac _ (by omega),ac _ (by omega),ac _ (by omega)];exact d0
     ·rw[ac _ (by omega),ac _ (by omega),ac _ (by omega),ac _ (by omega),ac _ (by omega),ac _ (by omega),ac _ (by omega),ac _ (by omega),ac _ (by omega),ac _ (by omega)];exact d1
     ·rw[ac _ (by omega),ac _ (by omega),ac _ (by omega),ac _ (by omega),ac _ (by omega),ac _ (by omega),ac _ (by omega),ac _ (by omega),ac _ (by omega),ac _ (by omega)];exact d2
     ·rw[ac _ (by omega),ac _ (by omega),ac _ (by omega),ac _ (by omega),ac _ (by omega),ac _ (by omega),ac _ (by omega),ac _ (by omega),ac _ (by omega),ac _ (by omega)];exact d3
     ·rw[ac _ (by omega),ac _ (by omega),ac _ (by omega),ac _ (by omega),ac _ (by omega),ac _ (by omega),ac _ (by omega),ac _ (by omega),ac _ (by omega),ac _ (by omega)];exact d4
     ·rw[ac _ (by omega),ac _ (by omega),ac _ (by omega),ac _ (by omega),ac _ (by omega),ac _ (by omega),ac _ (by omega),ac _ (by omega),ac _ (by omega),ac _ (by omega)];exact d5
     ·rw[ac _ (by omega),ac _ (by omega),ac _ (by omega),ac _ (by omega),ac _ (by omega),ac _ (by omega),ac _ (by omega),ac _ (by omega),ac _ (by omega),ac _ (by omega)];exact d6
     ·rw[ac _ (by omega),ac _ (by omega),ac _ (by omega),ac _ (by omega),ac _ (by omega),ac _ (by omega),ac _ (by omega),ac _ (by omega),ac _ (by omega),ac _ (by omega)];exact d7
     ·rw[ac _ (by omega),ac _ (by omega),ac _ (by omega),ac _ (by omega),ac _ (by omega),ac _ (by omega),ac _ (by omega),ac _ (by omega),ac _ (by omega),ac _ (by omega)];exact d8
     ·rw[ac _ (by omega),ac _ (by omega),ac _ (by omega),ac _ (by omega),ac _ (by omega),ac _ (by omega),ac _ (by omega),ac _ (by omega),ac _ (by omega),ac _ (by omega)];exact d9
   case measure=>simp[intOf];omega
  ·go_wp2;go_ret
   refine⟨rfl,⟨fun j hj=>?_,w.heap.size,rfl,Nat.le_refl _,cur,hblk,hsz,fun j hj=>?_⟩,hb⟩
   ·obtain⟨d0,d1,d2,d3,d4,d5,d6,d7,d8,d9⟩:=hdone j hj (by omega);exact⟨w.heap.size,0,rfl,Nat.le_refl _,by rw[aa hblk,Nat.zero_add];exact d0,by rw[aa hblk,Nat.zero_add];exact d1,by rw[aa hblk,Nat.zero_add];exact d2,by rw[aa hblk,Nat.zero_add];exact d3,by rw[aa hblk,Nat.zero_add];exact d4,by rw[aa hblk,Nat.zero_add];exact d5,by rw[aa hblk,Nat.zero_add];exact d6,by rw[aa hblk,Nat.zero_add];exact d7,by rw[aa hblk,Nat.zero_add];exact d8,by rw[aa hblk,Nat.zero_add];exact d9⟩
   ·obtain⟨d0,d1,d2,d3,d4,d5,d6,d7,d8,d9⟩:=hdone j hj (by omega);exact⟨by rw[d0];exact aW _ _,by rw[d1];exact aW _ _,by rw[d2];exact aW _ _,by rw[d3];exact aW _ _,by rw[d4];exact aW _ _,by rw[d5];exact aW _ _,by rw[d6];exact aW _ _,by rw[d7];exact aW _ _,by rw[d8];exact aW _ _,by rw[d9];exact noSl_str _⟩
theorem eqSrc_any(x:Sr)(w:World) :
  Calls Tryz.prog 230 #[.agg #[.int .i64 x.k,.int .i64 x.n,.int .i64 x.v.k,.int .i64 x.v.n,.string x.v.s],.agg #[.int .i64 x.k,.int .i64 x.n,.int .i64 x.v.k,.int .i64 x.v.n,.string x.v.s]] w fun e w'=>e=.returned (.bool true)/\Below w.heap.size w w':=by
 have hbA:Below w.heap.size w ((w.alloc (.cells #[.int .i64 x.k,.int .i64 x.n,.int .i64 x.v.k,.int .i64 x.v.n,.string x.v.s] 273)).alloc (.cells #[.int .i64 x.k,.int .i64 x.n,.int .i64 x.v.k,.int .i64 x.v.n,.string x.v.s] 273)):=(gM.alloc nL _).alloc (by simp) _;have hX0:=al (ah w #[.int .i64 x.k,.int .i64 x.n,.int .i64 x.v.k,.int .i64 x.v.n,.string x.v.s] 273) (.cells #[.int .i64 x.k,.int .i64 x.n,.int .i64 x.v.k,.int .i64 x.v.n,.string x.v.s] 273);have hY0:=ah (w.alloc (.cells #[.int .i64 x.k,.int .i64 x.n,.int .i64 x.v.k,.int .i64 x.v.n,.string x.v.s] 273)) #[.int .i64 x.k,.int .i64 x.n,.int .i64 x.v.k,.int .i64 x.v.n,.string x.v.s] 273;simp only[World.size_alloc] at hY0
 go_enter Tryz.func230,Tryz.ntmps230
 go_wp2_with fail
 refine (ct _ _ _ _).mono ?_;rintro e w1 ⟨rfl,hb⟩;have hB1:=hbA.trans (hb.mono hbA.size);have hX1:=ab hX0 hb;have hY1:=ab hY0 hb;clear hb;have x1:=aa hX1;have y1:=aa hY1;go_wp2;go_ret
 exact⟨rfl,hB1⟩
theorem dR(a a':Option Addr)(xs:List Sr)(cap cap2:Nat)(w:World)(hx:aU bC xs)(hm:bq w 0 a xs)(hm2:bq w 0 a' xs) :
  Calls Tryz.prog 226 #[.slice a xs.length cap,.slice a' xs.length cap2] w fun e w'=>e=.returned (.bool true)/\Below w.heap.size w w':=by
 obtain⟨hn,hc⟩:=hx;go_enter Tryz.func226,Tryz.ntmps226
 go_wp2;go_loopw [5] (fun i wr=>∃(k:Nat),k<=xs.length/\i=.int .i64 k/\Below w.heap.size w wr) (fun i _=>xs.length-(intOf i).toNat)
 case atStart=>exact⟨0,by omega,rfl,Below.refl _ _⟩
 case round=>
  obtain⟨k,hk,rfl,hb⟩:=hrel;by_cases hlt:k<xs.length
  ·obtain⟨b,off,rfl,-,d0,d1,d2,d3,d4⟩:=hm k hlt;obtain⟨b',off',rfl,-,k0,k1,k2,k3,k4⟩:=hm2 k hlt;have d0':=cell_later hb d0;have k0':=cell_later hb k0;have d1':=cell_later hb d1;have k1':=cell_later hb k1;have d2':=cell_later hb d2;have k2':=cell_later hb k2;have d3':=cell_later hb d3;have k3':=cell_later hb k3;have d4':=cell_later hb d4;have k4':=cell_later hb k4;clear d0 k0 d1 k1 d2 k2 d3 k3 d4 k4;go_wp2;go_region_with (go_at_call 230;refine (eqSrc_any xs[k] _).mono ?_;rintro e w1 ⟨rfl,hb1⟩)
   all_goals
    go_wp2;go_roundw
    case rel=>
     refine⟨k+1,by omega,by go_num,Below.trans ?_ (hb1.mono ?_)⟩
     ·repeat (first | exact hb | apply Below.drew)
     ·exact hb.size
    case measure=>simp[intOf];omega
  ·go_wp2;go_ret
   exact⟨rfl,hb⟩
theorem eqExFrame_any(x:EF)(a0 b0:Option Addr)(c0 e0:Nat)(a1 b1:Option Addr)(c1 e1:Nat)(w:World)(hn0:aU bC x.locals)(p0:bq w 0 a0 x.locals)(q0:bq w 0 b0 x.locals)(hn1:aU bC x.stack)(p1:bq w 0 a1 x.stack)(q1:bq w 0 b1 x.stack) :
  Calls Tryz.prog 216 #[.agg #[.int .i64 x.fn,.int .i64 x.pc,.slice a0 x.locals.length c0,.slice a1 x.stack.length c1],.agg #[.int .i64 x.fn,.int .i64 x.pc,.slice b0 x.locals.length e0,.slice b1 x.stack.length e1]] w fun e w'=>e=.returned (.bool true)/\Below w.heap.size w w':=by
 have hbA:Below w.heap.size w ((w.alloc (.cells #[.int .i64 x.fn,.int .i64 x.pc,.slice a0 x.locals.length c0,.slice a1 x.stack.length c1] 227)).alloc (.cells #[.int .i64 x.fn,.int .i64 x.pc,.slice b0 x.locals.length e0,.slice b1 x.stack.length e1] 227)):=(gM.alloc nL _).alloc (by simp) _;have hX0:=al (ah w #[.int .i64 x.fn,.int .i64 x.pc,.slice a0 x.locals.length c0,.slice a1 x.stack.length c1] 227) (.cells #[.int .i64 x.fn,.int .i64 x.pc,.slice b0 x.locals.length e0,.slice b1 x.stack.length e1] 227);have hY0:=ah (w.alloc (.cells #[.int .i64 x.fn,.int .i64 x.pc,.slice a0 x.locals.length c0,.slice a1 x.stack.length c1] 227)) #[.int .i64 x.fn,.int .i64 x.pc,.slice b0 x.locals.length e0,.slice b1 x.stack.length e1] 227;simp only[World.size_alloc] at hY0
 go_enter Tryz.func216,Tryz.ntmps216
 go_wp2_with fail
 refine (dR _ _ x.locals _ _ _ hn0 (p0.mono hbA) (q0.mono hbA)).mono ?_;rintro e w1 ⟨rfl,hb⟩;have hB1:=hbA.trans (hb.mono hbA.size);have hX1:=ab hX0 hb;have hY1:=ab hY0 hb;clear hb;have x1:=aa hX1;have y1:=aa hY1;go_wp2_with fail
 refine (dR _ _ x.stack _ _ _ hn1 (p1.mono hB1) (q1.mono hB1)).mono ?_;rintro e w2 ⟨rfl,hb⟩;have hB2:=hB1.trans (hb.mono hB1.size);have hX2:=ab hX1 hb;have hY2:=ab hY1 hb;clear x1 y1 hb;have x2:=aa hX2;have y2:=aa hY2;go_wp2;go_ret
 exact⟨rfl,hB2⟩
theorem eqExFrameS_any(a a':Option Addr)(xs:List EF)(cap cap2:Nat)(w:World)(hx:aU cz xs)(hm:bZ w 0 a xs)(hm2:bZ w 0 a' xs) :
  Calls Tryz.prog 196 #[.slice a xs.length cap,.slice a' xs.length cap2] w fun e w'=>e=.returned (.bool true)/\Below w.heap.size w w':=by
 obtain⟨hn,hc⟩:=hx;go_enter Tryz.func196,Tryz.ntmps196
 go_wp2;go_loopw [5] (fun i wr=>∃(k:Nat),k<=xs.length/\i=.int .i64 k/\Below w.heap.size w wr) (fun i _=>xs.length-(intOf i).toNat)
 case atStart=>exact⟨0,by omega,rfl,Below.refl _ _⟩
 case round=>
  obtain⟨k,hk,rfl,hb⟩:=hrel;by_cases hlt:k<xs.length
  ·obtain⟨b,off,a0,c0,a1,c1,rfl,-,d0,d1,d2,d3,p0,p1⟩:=hm k hlt;obtain⟨b',off',b0,e0,b1,e1,rfl,-,k0,k1,k2,k3,q0,q1⟩:=hm2 k hlt;have d0':=cell_later hb d0;have k0':=cell_later hb k0;have d1':=cell_later hb d1;have k1':=cell_later hb k1;have d2':=cell_later hb d2;have k2':=cell_later hb k2;have d3':=cell_later hb d3;have k3':=cell_later hb k3;have hc0:=(hc xs[k] (n_l hlt)).1;have hc1:=(hc xs[k] (n_l hlt)).2;clear d0 k0 d1 k1 d2 k2 d3 k3;go_wp2;go_region_with (go_at_call 216;refine (eqExFrame_any xs[k] _ _ _ _ _ _ _ _ _ hc0 (by exact p0.mono (by repeat (first | exact hb | apply Below.drew))) (by exact q0.mono (by repeat (first | exact hb | apply Below.drew))) hc1 (by exact p1.mono (by repeat (first | exact hb | apply Below.drew))) (by exact q1.mono (by repeat (first | exact hb | apply Below.drew)))).mono ?_;rintro e w1 ⟨rfl,hb1⟩)
   all_goals
    go_wp2;go_roundw
    case rel=>
     refine⟨k+1,by omega,by go_num,Below.trans ?_ (hb1.mono ?_)⟩
     ·repeat (first | exact hb | apply Below.drew)
     ·exact hb.size
    case measure=>simp[intOf];omega
  ·go_wp2;go_ret
   exact⟨rfl,hb⟩
theorem eqExRec_any(x:ER)(a0 b0:Option Addr)(c0 e0:Nat)(w:World)(hn0:aU bC x.fields)(p0:bq w 0 a0 x.fields)(q0:bq w 0 b0 x.fields) :
  Calls Tryz.prog 217 #[.agg #[.slice a0 x.fields.length c0],.agg #[.slice b0 x.fields.length e0]] w fun e w'=>e=.returned (.bool true)/\Below w.heap.size w w':=by
 have hbA:Below w.heap.size w ((w.alloc (.cells #[.slice a0 x.fields.length c0] 230)).alloc (.cells #[.slice b0 x.fields.length e0] 230)):=(gM.alloc nL _).alloc (by simp) _;have hX0:=al (ah w #[.slice a0 x.fields.length c0] 230) (.cells #[.slice b0 x.fields.length e0] 230);have hY0:=ah (w.alloc (.cells #[.slice a0 x.fields.length c0] 230)) #[.slice b0 x.fields.length e0] 230;simp only[World.size_alloc] at hY0
 go_enter Tryz.func217,Tryz.ntmps217
 go_wp2_with fail
 refine (dR _ _ x.fields _ _ _ hn0 (p0.mono hbA) (q0.mono hbA)).mono ?_;rintro e w1 ⟨rfl,hb⟩;have hB1:=hbA.trans (hb.mono hbA.size);have hX1:=ab hX0 hb;have hY1:=ab hY0 hb;clear hb;have x1:=aa hX1;have y1:=aa hY1;go_wp2;go_ret
 exact⟨rfl,hB1⟩
theorem eqExRecS_any(a a':Option Addr)(xs:List ER)(cap cap2:Nat)(w:World)(hx:aU cR xs)(hm:b8 w 0 a xs)(hm2:b8 w 0 a' xs) :
  Calls Tryz.prog 197 #[.slice a xs.length cap,.slice a' xs.length cap2] w fun e w'=>e=.returned (.bool true)/\Below w.heap.size w w':=by
 obtain⟨hn,hc⟩:=hx;go_enter Tryz.func197,Tryz.ntmps197
 go_wp2;go_loopw [5] (fun i wr=>∃(k:Nat),k<=xs.length/\i=.int .i64 k/\Below w.heap.size w wr) (fun i _=>xs.length-(intOf i).toNat)
 case atStart=>exact⟨0,by omega,rfl,Below.refl _ _⟩
 case round=>
  obtain⟨k,hk,rfl,hb⟩:=hrel;by_cases hlt:k<xs.length
  ·obtain⟨b,off,a0,c0,rfl,-,d0,p0⟩:=hm k hlt;obtain⟨b',off',b0,e0,rfl,-,k0,q0⟩:=hm2 k hlt;have d0':=cell_later hb d0;have k0':=cell_later hb k0;have hc0:=(hc xs[k] (n_l hlt));clear d0 k0;go_wp2;go_region_with (go_at_call 217;refine (eqExRec_any xs[k] _ _ _ _ _ hc0 (by exact p0.mono (by repeat (first | exact hb | apply Below.drew))) (by exact q0.mono (by repeat (first | exact hb | apply Below.drew)))).mono ?_;rintro e w1 ⟨rfl,hb1⟩)
   all_goals
    go_wp2;go_roundw
    case rel=>
     refine⟨k+1,by omega,by go_num,Below.trans ?_ (hb1.mono ?_)⟩
     ·repeat (first | exact hb | apply Below.drew)
     ·exact hb.size
    case measure=>simp[intOf];omega
  ·go_wp2;go_ret
   exact⟨rfl,hb⟩
theorem eqExit_any(x:Ex)(a0 b0:Option Addr)(c0 e0:Nat)(a1 b1:Option Addr)(c1 e1:Nat)(w:World)(hn0:aU cz x.frames)(p0:bZ w 0 a0 x.frames)(q0:bZ w 0 b0 x.frames)(hn1:aU cR x.recs)(p1:b8 w 0 a1 x.recs)(q1:b8 w 0 b1 x.recs) :
  Calls Tryz.prog 169 #[.agg #[.int .i64 x.kind,.int .i64 x.spec.f,.int .i64 x.spec.pc,.int .i64 x.spec.seen,.int .i64 x.spec.target,.slice a0 x.frames.length c0,.slice a1 x.recs.length c1],.agg #[.int .i64 x.kind,.int .i64 x.spec.f,.int .i64 x.spec.pc,.int .i64 x.spec.seen,.int .i64 x.spec.target,.slice b0 x.frames.length e0,.slice b1 x.recs.length e1]] w fun e w'=>e=.returned (.bool true)/\Below w.heap.size w w':=by
 have hbA:Below w.heap.size w ((w.alloc (.cells #[.int .i64 x.kind,.int .i64 x.spec.f,.int .i64 x.spec.pc,.int .i64 x.spec.seen,.int .i64 x.spec.target,.slice a0 x.frames.length c0,.slice a1 x.recs.length c1] 175)).alloc (.cells #[.int .i64 x.kind,.int .i64 x.spec.f,.int .i64 x.spec.pc,.int .i64 x.spec.seen,.int .i64 x.spec.target,.slice b0 x.frames.length e0,.slice b1 x.recs.length e1] 175)):=(gM.alloc nL _).alloc (by simp) _;have hX0:=al (ah w #[.int .i64 x.kind,.int .i64 x.spec.f,.int .i64 x.spec.pc,.int .i64 x.spec.seen,.int .i64 x.spec.target,.slice a0 x.frames.length c0,.slice a1 x.recs.length c1] 175) (.cells #[.int .i64 x.kind,.int .i64 x.spec.f,.int .i64 x.spec.pc,.int .i64 x.spec.seen,.int .i64 x.spec.target,.slice b0 x.frames.length e0,.slice b1 x.recs.length e1] 175);have hY0:=ah (w.alloc (.cells #[.int .i64 x.kind,.int .i64 x.spec.f,.int .i64 x.spec.pc,.int .i64 x.spec.seen,.int .i64 x.spec.target,.slice a0 x.frames.length c0,.slice a1 x.recs.length c1] 175)) #[.int .i64 x.kind,.int .i64 x.spec.f,.int .i64 x.spec.pc,.int .i64 x.spec.seen,.int .i64 x.spec.target,.slice b0 x.frames.length e0,.slice b1 x.recs.length e1] 175;simp only[World.size_alloc] at hY0
 go_enter Tryz.func169,Tryz.ntmps169
 go_wp2_with fail
 refine (eqSpec_same _ _ _ _ _).mono ?_;rintro e w1 ⟨rfl,hb⟩;have hB1:=hbA.trans (hb.mono hbA.size);have hX1:=ab hX0 hb;have hY1:=ab hY0 hb;clear hb;have x1:=aa hX1;have y1:=aa hY1;go_wp2_with fail
 refine (eqExFrameS_any _ _ x.frames _ _ _ hn0 (p0.mono hB1) (q0.mono hB1)).mono ?_;rintro e w2 ⟨rfl,hb⟩;have hB2:=hB1.trans (hb.mono hB1.size);have hX2:=ab hX1 hb;have hY2:=ab hY1 hb;clear x1 y1 hb;have x2:=aa hX2;have y2:=aa hY2;go_wp2_with fail
 refine (eqExRecS_any _ _ x.recs _ _ _ hn1 (p1.mono hB2) (q1.mono hB2)).mono ?_;rintro e w3 ⟨rfl,hb⟩;have hB3:=hB2.trans (hb.mono hB2.size);have hX3:=ab hX2 hb;have hY3:=ab hY2 hb;clear x2 y2 hb;have x3:=aa hX3;have y3:=aa hY3;go_wp2;go_ret
 exact⟨rfl,hB3⟩
theorem eqExitS_any(a a':Option Addr)(xs:List Ex)(cap cap2:Nat)(w:World)(hx:aU ck xs)(hm:bV w 0 a xs)(hm2:bV w 0 a' xs) :
  Calls Tryz.prog 124 #[.slice a xs.length cap,.slice a' xs.length cap2] w fun e w'=>e=.returned (.bool true)/\Below w.heap.size w w':=by
 obtain⟨hn,hc⟩:=hx;go_enter Tryz.func124,Tryz.ntmps124
 go_wp2;go_loopw [5] (fun i wr=>∃(k:Nat),k<=xs.length/\i=.int .i64 k/\Below w.heap.size w wr) (fun i _=>xs.length-(intOf i).toNat)
 case atStart=>exact⟨0,by omega,rfl,Below.refl _ _⟩
 case round=>
  obtain⟨k,hk,rfl,hb⟩:=hrel;by_cases hlt:k<xs.length
  ·obtain⟨b,off,a0,c0,a1,c1,rfl,-,d0,d1,d2,d3,d4,d5,d6,p0,p1⟩:=hm k hlt;obtain⟨b',off',b0,e0,b1,e1,rfl,-,k0,k1,k2,k3,k4,k5,k6,q0,q1⟩:=hm2 k hlt;have d0':=cell_later hb d0;have k0':=cell_later hb k0;have d1':=cell_later hb d1;have k1':=cell_later hb k1;have d2':=cell_later hb d2;have k2':=cell_later hb k2;have d3':=cell_later hb d3;have k3':=cell_later hb k3;have d4':=cell_later hb d4;have k4':=cell_later hb k4;have d5':=cell_later hb d5;have k5':=cell_later hb k5;have d6':=cell_later hb d6;have k6':=cell_later hb k6;have hc0:=(hc xs[k] (n_l hlt)).1;have hc1:=(hc xs[k] (n_l hlt)).2;clear d0 k0 d1 k1 d2 k2 d3 k3 d4 k4 d5 k5 d6 k6;go_wp2;go_region_with (go_at_call 169;refine (eqExit_any xs[k] _ _ _ _ _ _ _ _ _ hc0 (by exact p0.mono (by repeat (first | exact hb | apply Below.drew))) (by exact q0.mono (by repeat (first | exact hb | apply Below.drew))) hc1 (by exact p1.mono (by repeat (first | exact hb | apply Below.drew))) (by exact q1.mono (by repeat (first | exact hb | apply Below.drew)))).mono ?_;rintro e w1 ⟨rfl,hb1⟩)
   all_goals
    go_wp2;go_roundw
    case rel=>
     refine⟨k+1,by omega,by go_num,Below.trans ?_ (hb1.mono ?_)⟩
     ·repeat (first | exact hb | apply Below.drew)
     ·exact hb.size
    case measure=>simp[intOf];omega
  ·go_wp2;go_ret
   exact⟨rfl,hb⟩
theorem eqFOp_any(x:Fo)(w:World) :
  Calls Tryz.prog 168 #[.agg #[.int .i64 x.op,.int .i64 x.d,.int .i64 x.a,.int .i64 x.b,.int .i64 x.x,.int .i64 x.f,.int .i64 x.p,.int .i64 x.v.k,.int .i64 x.v.n,.string x.v.s],.agg #[.int .i64 x.op,.int .i64 x.d,.int .i64 x.a,.int .i64 x.b,.int .i64 x.x,.int .i64 x.f,.int .i64 x.p,.int .i64 x.v.k,.int .i64 x.v.n,.string x.v.s]] w fun e w'=>e=.returned (.bool true)/\Below w.heap.size w w':=by
 have hbA:Below w.heap.size w ((w.alloc (.cells #[.int .i64 x.op,.int .i64 x.d,.int .i64 x.a,.int .i64 x.b,.int .i64 x.x,.int .i64 x.f,.int .i64 x.p,.int .i64 x.v.k,.int .i64 x.v.n,.string x.v.s] 177)).alloc (.cells #[.int .i64 x.op,.int .i64 x.d,.int .i64 x.a,.int .i64 x.b,.int .i64 x.x,.int .i64 x.f,.int .i64 x.p,.int .i64 x.v.k,.int .i64 x.v.n,.string x.v.s] 177)):=(gM.alloc nL _).alloc (by simp) _;have hX0:=al (ah w #[.int .i64 x.op,.int .i64 x.d,.int .i64 x.a,.int .i64 x.b,.int .i64 x.x,.int .i64 x.f,.int .i64 x.p,.int .i64 x.v.k,.int .i64 x.v.n,.string x.v.s] 177) (.cells #[.int .i64 x.op,.int .i64 x.d,.int .i64 x.a,.int .i64 x.b,.int .i64 x.x,.int .i64 x.f,.int .i64 x.p,.int .i64 x.v.k,.int .i64 x.v.n,.string x.v.s] 177);have hY0:=ah (w.alloc (.cells #[.int .i64 x.op,.int .i64 x.d,.int .i64 x.a,.int .i64 x.b,.int .i64 x.x,.int .i64 x.f,.int .i64 x.p,.int .i64 x.v.k,.int .i64 x.v.n,.string x.v.s] 177)) #[.int .i64 x.op,.int .i64 x.d,.int .i64 x.a,.int .i64 x.b,.int .i64 x.x,.int .i64 x.f,.int .i64 x.p,.int .i64 x.v.k,.int .i64 x.v.n,.string x.v.s] 177;simp only[World.size_alloc] at hY0
 go_enter Tryz.func168,Tryz.ntmps168
 go_wp2_with fail
 refine (ct _ _ _ _).mono ?_;rintro e w1 ⟨rfl,hb⟩;have hB1:=hbA.trans (hb.mono hbA.size);have hX1:=ab hX0 hb;have hY1:=ab hY0 hb;clear hb;have x1:=aa hX1;have y1:=aa hY1;go_wp2;go_ret
 exact⟨rfl,hB1⟩
theorem eqFOpS_any(a a':Option Addr)(xs:List Fo)(cap cap2:Nat)(w:World)(hx:aU cL xs)(hm:bS w 0 a xs)(hm2:bS w 0 a' xs) :
  Calls Tryz.prog 123 #[.slice a xs.length cap,.slice a' xs.length cap2] w fun e w'=>e=.returned (.bool true)/\Below w.heap.size w w':=by
 obtain⟨hn,hc⟩:=hx;go_enter Tryz.func123,Tryz.ntmps123
 go_wp2;go_loopw [5] (fun i wr=>∃(k:Nat),k<=xs.length/\i=.int .i64 k/\Below w.heap.size w wr) (fun i _=>xs.length-(intOf i).toNat)
 case atStart=>exact⟨0,by omega,rfl,Below.refl _ _⟩
 case round=>
  obtain⟨k,hk,rfl,hb⟩:=hrel;by_cases hlt:k<xs.length
  ·obtain⟨b,off,rfl,-,d0,d1,d2,d3,d4,d5,d6,d7,d8,d9⟩:=hm k hlt;obtain⟨b',off',rfl,-,k0,k1,k2,k3,k4,k5,k6,k7,k8,k9⟩:=hm2 k hlt;have d0':=cell_later hb d0;have k0':=cell_later hb k0;have d1':=cell_later hb d1;have k1':=cell_later hb k1;have d2':=cell_later hb d2;have k2':=cell_later hb k2;have d3':=cell_later hb d3;have k3':=cell_later hb k3;have d4':=cell_later hb d4;have k4':=cell_later hb k4;have d5':=cell_later hb d5;have k5':=cell_later hb k5;have d6':=cell_later hb d6;have k6':=cell_later hb k6;have d7':=cell_later hb d7;have k7':=cell_later hb k7;have d8':=cell_later hb d8;have k8':=cell_later hb k8;have d9':=cell_later hb d9;have k9':=cell_later hb k9;clear d0 k0 d1 k1 d2 k2 d3 k3 d4 k4 d5 k5 d6 k6 d7 k7 d8 k8 d9 k9;go_wp2;go_region_with (go_at_call 168;refine (eqFOp_any xs[k] _).mono ?_;rintro e w1 ⟨rfl,hb1⟩)
   all_goals
    go_wp2;go_roundw
    case rel=>
     refine⟨k+1,by omega,by go_num,Below.trans ?_ (hb1.mono ?_)⟩
     ·repeat (first | exact hb | apply Below.drew)
     ·exact hb.size
    case measure=>simp[intOf];omega
  ·go_wp2;go_ret
   exact⟨rfl,hb⟩
end Go.Proofs.YtdlkbbgmjilccaaGreatDoor
