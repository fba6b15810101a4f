/- TV31 -/
import Derived.Test.YtdlkbbgmjilccaaGreatDoorTV28
import Derived.Test.YtdlkbbgmjilccaaGreatDoorTV30
import Derived.Lib.LaidTab
import Derived.MakeChecks
import Derived.Stop.LaidErr
set_option maxHeartbeats 32000000
set_option maxRecDepth 100000
namespace Go.Proofs.YtdlkbbgmjilccaaGreatDoor
open Go.RowKit
theorem gTab : Tryz.prog.globalNamed "math/bits.deBruijn64tab" = some 1 := by kernel_rfl
theorem gShp : Tryz.prog.globalNamed "loop.example/g00094/impl.shapes" = some 0 := by kernel_rfl
def dbZ:List Int:=dbT.map fun (k:Nat)=>(k:Int)
theorem eTab:(Rows.laid_math_bits_deBruijn64tab:DataW Unit)=Lib.tabData .u8 dbZ:=by kernel_rfl
theorem eShp:(Rows.laid_loop_example_g00094_impl_shapes:DataW Unit)=.agg (shp.map fun r=>.agg (r.map fun (z:Nat)=>.lit (.int .i64 (z:Int)))):=by kernel_rfl
theorem dbZ_at(i:Nat):dbZ.getD i 0=((dbT[i]?.getD 0:Nat):Int):=by
 unfold dbZ;rw[List.getD_eq_getElem?_getD,List.getElem?_map]
 cases dbT[i]?<;>rfl
theorem shp_len:shp.length=30:=by decide
theorem shp_row:∀r∈shp,r.length=5:=by decide
theorem cs261:Tryz.prog.cellsOf 299=1:=by kernel_rfl
theorem cs263:Tryz.prog.cellsOf 301=5:=by kernel_rfl
theorem cs264:Tryz.prog.cellsOf 302=150:=by kernel_rfl
theorem cells_of_rows{H:Type}{enc:TypeId×Value->H}{w:World}{base:Nat}{sp:Nat->Bool}{held:Bool}{fuel:Nat}{cs:List Value}{p:List MemPlace}
  (h:DataW.trod enc Tryz.prog w base sp held fuel 302 cs=some (.agg (shp.map fun r=>.agg (r.map fun (z:Nat)=>.lit (.int .i64 (z:Int)))),p)):∀op j,op<30->j<5->cs[op*5+j]?=some (.int .i64 (sh op j:Nat)):=by
 cases fuel with
 | zero=>simp[DataW.trod] at h
 | succ fuel=>
  simp only[DataW.trod,Tryz.underlying302,cs263,cs264] at h
  split at h
  ·obtain⟨xs,hm,hx⟩:=Option.map_eq_some_iff.1 h;have hxs:xs.map (·.1)=shp.map fun r=>(DataW.agg (r.map fun (z:Nat)=>.lit (.int .i64 (z:Int))):DataW H):=by
    have:=congrArg Prod.fst hx;simpa using this
   intro op j hop hj;obtain⟨b,hb,hf⟩:=Lib.mapM_at hm op op (by simp[hop]);have h2:(xs.map (·.1))[op]?=some b.1:=by simp[hb]
   rw[hxs,List.getElem?_map] at h2;obtain⟨r,hr⟩:∃r,shp[op]?=some r:=⟨_,List.getElem?_eq_getElem (by rw[shp_len];exact hop)⟩;rw[hr] at h2;have hb1:b.1=DataW.agg (r.map fun (z:Nat)=>.lit (.int .i64 (z:Int))):=by simpa using h2.symm
   have hrl:r.length=5:=shp_row _ (List.mem_of_getElem? hr);obtain⟨ys,n',_,rfl,_,hyl,hg⟩:=DataW.trod_struct Tryz.underlying301 hf;have hys:ys.map (·.1)=r.map fun (z:Nat)=>(DataW.lit (.int .i64 (z:Int)):DataW H):=by simpa using hb1
   have hsh:sh op j=r[j]'(by omega):=by
    unfold sh;rw[List.getD_eq_getElem?_getD,List.getD_eq_getElem?_getD,hr,Option.getD_some,List.getElem?_eq_getElem (by omega),Option.getD_some]
   have key:∀y,ys[j]?=some y->y.1=DataW.lit (.int .i64 ((sh op j:Nat):Int)):=fun y hy=>by
    have h3:(ys.map (·.1))[j]?=some y.1:=by simp[hy]
    rw[hys,List.getElem?_map,List.getElem?_eq_getElem (by omega)] at h3;rw[hsh];simpa using h3.symm
   have hyl5:ys.length=5:=hyl;have fin:∀y,ys[j]?=some y->DataW.trod enc Tryz.prog w base sp held n' 299 ((((cs.drop (op*5)).take 5).drop j).take 1)=some y->cs[op*5+j]?=some (.int .i64 (sh op j:Nat)):=fun y hy ht=>by
    obtain⟨z,hc,rfl,_⟩:=DataW.trod_int Tryz.underlying299 ht;have h4:=key _ hy;simp at h4
    have h5:=congrArg (·[0]?) hc;simp[List.getElem?_drop,hj] at h5
    rw[h5,h4]
   have yj:ys[j]?=some (ys[j]'(by omega)):=List.getElem?_eq_getElem (by omega);have hj5:j=0\/j=1\/j=2\/j=3\/j=4:=by omega
   rcases hj5 with rfl | rfl | rfl | rfl | rfl
   ·exact fin _ yj (by rw[<-yj];simpa[cs261] using hg 0 _ rfl)
   ·exact fin _ yj (by rw[<-yj];simpa[cs261] using hg 1 _ rfl)
   ·exact fin _ yj (by rw[<-yj];simpa[cs261] using hg 2 _ rfl)
   ·exact fin _ yj (by rw[<-yj];simpa[cs261] using hg 3 _ rfl)
   ·exact fin _ yj (by rw[<-yj];simpa[cs261] using hg 4 _ rfl)
  ·cases h
theorem of_laid {L : List (String × DataW Unit)} {W : World} (hL : L = [("math/bits.deBruijn64tab", Rows.laid_math_bits_deBruijn64tab), ("loop.example/g00094/impl.shapes", Rows.laid_loop_example_g00094_impl_shapes)]) (h : laidMetH Tryz.prog L W) : ShAt W ∧ DB W := by
 subst hL;rw[MakeChecks.laidMetH_plain _ _ _ (by kernel_rfl)] at h;rw[eTab,eShp] at h;have ht:=Lib.tabIs_of_head gTab (t:=345) (e:=5) (by kernel_rfl) Tryz.underlying345 Tryz.underlying5 (by kernel_rfl) (by kernel_rfl) h;refine⟨?_,fun i hi=>?_⟩
 ·obtain⟨ps,⟨g,t,cs,fuel,p,q,hg,ht,hvar,hd,_,_⟩,_⟩:=h.tail;obtain rfl:=Option.some.inj (gShp.symm.trans hg);obtain rfl:=Option.some.inj ((show (Tryz.prog.globals[0]?).map (·.type)=some 302 by kernel_rfl).symm.trans ht)
  intro op j h1 h2;have:=World.var?_cell hg hvar (op*5+j);rw[this];have:=cells_of_rows hd op j h1 h2;simpa using this
 ·have:=ht.cell gTab i hi;rw[this,dbZ_at]
theorem infoTFast:(Tryz.prog.info? 101).map (fun i=>(i.zero,i.size,i.bytes))=some (some (.agg #[.int .i64 0,.int .i64 0,.int .i64 0,.int .i64 0,.slice none 0 0,.slice none 0 0]),6,80):=by kernel_rfl
theorem toFastE_b(x:aH)(a0:Option Addr)(c0:Nat)(a1:Option Addr)(c1:Nat)(w:World)(hn0:aU cL x.ops)(p0:bS w 0 a0 x.ops)(hn1:aU ck x.exits)(p1:bV w 0 a1 x.exits) :
  Calls Tryz.prog 53 #[.agg #[.int .i64 x.fn,.int .i64 x.entry,.int .i64 x.vals,.int .i64 x.nums,.slice a0 x.ops.length c0,.slice a1 x.exits.length c1]] w fun e w'=>∃g0 g1,w.heap.size<=g0/\w.heap.size<=g1/\e=.returned (.agg #[.int .i64 x.fn,.int .i64 x.entry,.int .i64 x.vals,.int .i64 x.nums,.slice (some ⟨g0,0,none⟩) x.ops.length x.ops.length,.slice (some ⟨g1,0,none⟩) x.exits.length x.exits.length])/\FoY w' w.heap.size (some ⟨g0,0,none⟩) x.ops/\ExY w' w.heap.size (some ⟨g1,0,none⟩) x.exits/\Below w.heap.size w w':=by
 have hbA:Below w.heap.size w (((w.alloc (.cells #[.int .i64 x.fn,.int .i64 x.entry,.int .i64 x.vals,.int .i64 x.nums,.slice a0 x.ops.length c0,.slice a1 x.exits.length c1] 93)).alloc (.cells #[.int .i64 0,.int .i64 0,.int .i64 0,.int .i64 0,.slice none 0 0,.slice none 0 0] 101)).alloc (.cells #[.int .i64 x.fn,.int .i64 x.entry,.int .i64 x.vals,.int .i64 x.nums,.slice none 0 0,.slice none 0 0] 101)):=((gM.alloc nL _).alloc (by simp) _).alloc (by simp;omega) _;have hI0:=al (al (ah w #[.int .i64 x.fn,.int .i64 x.entry,.int .i64 x.vals,.int .i64 x.nums,.slice a0 x.ops.length c0,.slice a1 x.exits.length c1] 93) (.cells #[.int .i64 0,.int .i64 0,.int .i64 0,.int .i64 0,.slice none 0 0,.slice none 0 0] 101)) (.cells #[.int .i64 x.fn,.int .i64 x.entry,.int .i64 x.vals,.int .i64 x.nums,.slice none 0 0,.slice none 0 0] 101);have hR0:=al (ah (w.alloc (.cells #[.int .i64 x.fn,.int .i64 x.entry,.int .i64 x.vals,.int .i64 x.nums,.slice a0 x.ops.length c0,.slice a1 x.exits.length c1] 93)) #[.int .i64 0,.int .i64 0,.int .i64 0,.int .i64 0,.slice none 0 0,.slice none 0 0] 101) (.cells #[.int .i64 x.fn,.int .i64 x.entry,.int .i64 x.vals,.int .i64 x.nums,.slice none 0 0,.slice none 0 0] 101);have hO0:=ah ((w.alloc (.cells #[.int .i64 x.fn,.int .i64 x.entry,.int .i64 x.vals,.int .i64 x.nums,.slice a0 x.ops.length c0,.slice a1 x.exits.length c1] 93)).alloc (.cells #[.int .i64 0,.int .i64 0,.int .i64 0,.int .i64 0,.slice none 0 0,.slice none 0 0] 101)) #[.int .i64 x.fn,.int .i64 x.entry,.int .i64 x.vals,.int .i64 x.nums,.slice none 0 0,.slice none 0 0] 101
 simp only[World.size_alloc] at hR0 hO0
 go_enter Tryz.func53,Tryz.ntmps53
 go_wp2_with fail
 refine (toFOpS_b a0 x.ops c0 _ hn0 (p0.mono hbA)).mono ?_;rintro e w1 ⟨rfl,hnew,hbn⟩;have hI1:=ab hI0 hbn;have hR1:=ab hR0 hbn;have hO1:=ab hO0 hbn;have hB1:=hbA.trans (hbn.mono hbA.size);simp only[World.size_alloc] at hnew
 have q0:=hnew;clear hI0 hR0 hO0 hbA hbn hnew;obtain⟨x1,hx1⟩:∃x1,x1=(w1.setCell ⟨w.heap.size+1+1,4,none⟩ (.slice (some ⟨w.heap.size+1+1+1,0,none⟩) x.ops.length x.ops.length)):=⟨_,rfl⟩;have hOx:x1.heap[w.heap.size+1+1]?=some (.cells #[.int .i64 x.fn,.int .i64 x.entry,.int .i64 x.vals,.int .i64 x.nums,.slice (some ⟨w.heap.size+1+1+1,0,none⟩) x.ops.length x.ops.length,.slice none 0 0] 101 (0,0)):=by rw[hx1];simpa using (ao (i:=4) hO1 (.slice (some ⟨w.heap.size+1+1+1,0,none⟩) x.ops.length x.ops.length))
 have hRx:x1.heap[w.heap.size+1]?=some (.cells #[.int .i64 0,.int .i64 0,.int .i64 0,.int .i64 0,.slice none 0 0,.slice none 0 0] 101 (0,0)):=by rw[hx1,Below.heap_setCell _ _ _ _ (by simp)];exact hR1
 have hIx:x1.heap[w.heap.size]?=some (.cells #[.int .i64 x.fn,.int .i64 x.entry,.int .i64 x.vals,.int .i64 x.nums,.slice a0 x.ops.length c0,.slice a1 x.exits.length c1] 93 (0,0)):=by rw[hx1,Below.heap_setCell _ _ _ _ (by simp;omega)];exact hI1
 have hBx:Below w.heap.size w x1:=by rw[hx1];exact (hB1.setCell (by simp;omega) _)
 have hzx:w.heap.size+1+1+1<=x1.heap.size:=aq hOx;have q0x:=q0.above (w':=x1) (by rw[hx1];exact ((aL.refl _ _).setCell (by simp) _));have i1:=aa hI1;have o1:=aa hO1;have o2:=am hO1;go_wp2_with fail
 rw[<-hx1];clear hx1 i1 o1 o2 hI1 hR1 hO1 hB1 q0;refine (toExitS_b a1 x.exits c1 _ hn1 (p1.mono hBx)).mono ?_;rintro e w2 ⟨rfl,hnew,hbn⟩;have hI2:=ab hIx hbn;have hR2:=ab hRx hbn;have hO2:=ab hOx hbn;have hB2:=hBx.trans (hbn.mono hBx.size);have q0:=q0x.mono hbn;have q1:=hnew.low hzx;clear hIx hRx hOx hBx hbn q0x hnew;have i1:=aa hI2;have r1:=aa hR2;have r2:=am hR2;have o1:=aa hO2;have o2:=am hO2;have hzy:w.heap.size+1+1<w2.heap.size:=aq hO2;go_wp2;refine bodyPost_ret (v:=.agg #[.int .i64 x.fn,.int .i64 x.entry,.int .i64 x.vals,.int .i64 x.nums,.slice (some ⟨w.heap.size+1+1+1,0,none⟩) x.ops.length x.ops.length,.slice (some ⟨x1.heap.size,0,none⟩) x.exits.length x.exits.length]) (by simp[results,Tryz.results53,go_sem,r1]) rfl ⟨_,_,by omega,by omega,rfl,?_,?_,?_⟩
 ·exact (q0.above ((((((((aL.refl _ _).setCell (by simp) _).setCell (by simp) _).setCell (by simp) _).setCell (by simp) _).setCell (by simp) _).setCell (by simp) _).setCell (by simp) _)).low (by omega)
 ·exact (q1.above ((((((((aL.refl _ _).setCell (by simp) _).setCell (by simp) _).setCell (by simp) _).setCell (by simp) _).setCell (by simp) _).setCell (by simp) _).setCell (by simp) _)).low (by omega)
 ·exact (((((((hB2.setCell (by simp;first | done | omega) _).setCell (by simp;first | done | omega) _).setCell (by simp;first | done | omega) _).setCell (by simp;first | done | omega) _).setCell (by simp;first | done | omega) _).setCell (by simp;first | done | omega) _).setCell (by simp;first | done | omega) _)
theorem toFastS_b(a:Option Addr)(xs:List aH)(cap:Nat)(w:World)(hx:aU bK xs)(hm:cH w 0 a xs) :
  Calls Tryz.prog 24 #[.slice a xs.length cap] w fun e w'=>e=.returned (.slice (some ⟨w.heap.size,0,none⟩) xs.length xs.length)/\FaY w' w.heap.size (some ⟨w.heap.size,0,none⟩) xs/\Below w.heap.size w w':=by
 obtain⟨hn,hc⟩:=hx;obtain⟨i0,hi,hz0,hz1,hz2⟩:=info_parts infoTFast;go_enter Tryz.func24,Tryz.ntmps24
 go_wp2_with (first | (at_make;refine wpList_make_full _ rfl _ _ 50 rfl w.heap.size 101 i0 (.agg #[.int .i64 0,.int .i64 0,.int .i64 0,.int .i64 0,.slice none 0 0,.slice none 0 0]) 6 Tryz.underlying50 hi hz0 hz1 _ _ _ _ xs.length rfl rfl rfl rfl (by rw[hz2];omega) (by unfold maxLen;omega) nL ?_;intro w1 hown hgrow))
 obtain⟨cur0,hblk,hsz⟩:=aR hown;have hb0:Below w.heap.size w w1:=gM.grown hgrow nL (by intro k hk;cases hk);clear hown hgrow hi hz0 hz1 hz2;go_loopw [4] (fun i wr=>∃(k:Nat) (cur:Array Value),k<=xs.length/\i=.int .i64 k/\wr.heap[w.heap.size]?=some (.cells cur 101 (0,0))/\cur.size=xs.length*6/\(∀j (hj:j<xs.length),j<k->∃g0 g1,cur[j*6]?=some (.int .i64 xs[j].fn)/\cur[j*6+1]?=some (.int .i64 xs[j].entry)/\cur[j*6+2]?=some (.int .i64 xs[j].vals)/\cur[j*6+3]?=some (.int .i64 xs[j].nums)/\cur[j*6+4]?=some (.slice (some ⟨g0,0,none⟩) xs[j].ops.length xs[j].ops.length)/\cur[j*6+5]?=some (.slice (some ⟨g1,0,none⟩) xs[j].exits.length xs[j].exits.length)/\FoY wr (w.heap.size+1) (some ⟨g0,0,none⟩) xs[j].ops/\ExY wr (w.heap.size+1) (some ⟨g1,0,none⟩) xs[j].exits)/\Below w.heap.size w wr) (fun i _=>xs.length-(intOf i).toNat)
 case atStart=>exact⟨0,cur0,by omega,rfl,hblk,hsz,fun j _ h=>by omega,hb0⟩
 case round=>
  obtain⟨k,cur,hk,rfl,hblk,hsz,hdone,hb⟩:=hrel;by_cases hlt:k<xs.length
  ·obtain⟨b,off,a0,c0,a1,c1,rfl,-,d0,d1,d2,d3,d4,d5,p0,p1⟩:=hm k hlt;have e0:=cell_later hb d0;have e1:=cell_later hb d1;have e2:=cell_later hb d2;have e3:=cell_later hb d3;have e4:=cell_later hb d4;have e5:=cell_later hb d5;clear d0 d1 d2 d3 d4 d5;have hgs:w.heap.size<wr.heap.size:=aq hblk;have hc0:=(hc xs[k] (n_l hlt)).1;have hc1:=(hc xs[k] (n_l hlt)).2;go_wp2_with fail
   refine (toFastE_b xs[k] _ _ _ _ _ hc0 (p0.mono hb) hc1 (p1.mono hb)).mono ?_;rintro e w2 ⟨g0,g1,hg0,hg1,rfl,s0,s1,hb2⟩;have hblk2:=ab hblk hb2;have hfz:=am hblk2;have hcl0:w2.cell? ⟨w.heap.size,k*6,none⟩=some cur[k*6]:=by rw[aa hblk2];simp
   have hcl1:w2.cell? ⟨w.heap.size,k*6+1,none⟩=some cur[k*6+1]:=by rw[aa hblk2];simp
   have hcl2:w2.cell? ⟨w.heap.size,k*6+2,none⟩=some cur[k*6+2]:=by rw[aa hblk2];simp
   have hcl3:w2.cell? ⟨w.heap.size,k*6+3,none⟩=some cur[k*6+3]:=by rw[aa hblk2];simp
   have hcl4:w2.cell? ⟨w.heap.size,k*6+4,none⟩=some cur[k*6+4]:=by rw[aa hblk2];simp
   have hcl5:w2.cell? ⟨w.heap.size,k*6+5,none⟩=some cur[k*6+5]:=by rw[aa hblk2];simp
   have hb3:Below w.heap.size w w2:=hb.trans (hb2.mono hb.size);go_wp2;go_roundw
   case rel=>
    have hab:aL (w.heap.size+1) w2 ((((((w2.setCell ⟨w.heap.size,k*6,none⟩ (.int .i64 xs[k].fn)).setCell ⟨w.heap.size,k*6+1,none⟩ (.int .i64 xs[k].entry)).setCell ⟨w.heap.size,k*6+2,none⟩ (.int .i64 xs[k].vals)).setCell ⟨w.heap.size,k*6+3,none⟩ (.int .i64 xs[k].nums)).setCell ⟨w.heap.size,k*6+4,none⟩ (.slice (some ⟨g0,0,none⟩) xs[k].ops.length xs[k].ops.length)).setCell ⟨w.heap.size,k*6+5,none⟩ (.slice (some ⟨g1,0,none⟩) xs[k].exits.length xs[k].exits.length)):=(((((((aL.refl _ _).setCell (by simp) _).setCell (by simp) _).setCell (by simp) _).setCell (by simp) _).setCell (by simp) _).setCell (by simp) _);refine⟨k+1,((((((cur.setIfInBounds (k*6) (.int .i64 xs[k].fn)).setIfInBounds (k*6+1) (.int .i64 xs[k].entry)).setIfInBounds (k*6+2) (.int .i64 xs[k].vals)).setIfInBounds (k*6+3) (.int .i64 xs[k].nums)).setIfInBounds (k*6+4) (.slice (some ⟨g0,0,none⟩) xs[k].ops.length xs[k].ops.length)).setIfInBounds (k*6+5) (.slice (some ⟨g1,0,none⟩) xs[k].exits.length xs[k].exits.length)),by omega,by go_num,(ao (ao (ao (ao (ao (ao hblk2 _) _) _) _) _) _),by simpa using hsz,?_,((((((hb3.setCell nL _).setCell nL _).setCell nL _).setCell nL _).setCell nL _).setCell nL _)⟩;intro j hj hjk;by_cases e:j=k
    ·subst e;refine⟨g0,g1,?_,?_,?_,?_,?_,?_,(s0.low (by omega)).above hab,(s1.low (by omega)).above hab⟩
     ·rw[ac _ (by omega),ac _ (by omega),ac _ (by omega),ac _ (by omega),ac _ (by omega)];exact az _ (by first | omega | (simp;omega))
     ·rw[ac _ (by omega),ac _ (by omega),ac _ (by omega),ac _ (by omega)];exact az _ (by first | omega | (simp;omega))
     ·rw[ac _ (by omega),ac _ (by omega),ac _ (by omega)];exact az _ (by first | omega | (simp;omega))
     ·rw[ac _ (by omega),ac _ (by omega)];exact az _ (by first | omega | (simp;omega))
     ·rw[ac _ (by omega)];exact az _ (by first | omega | (simp;omega))
     ·exact az _ (by first | omega | (simp;omega))
    ·obtain⟨g0',g1',d0,d1,d2,d3,d4,d5,s0',s1'⟩:=hdone j hj (by omega);refine⟨g0',g1',?_,?_,?_,?_,?_,?_,(s0'.mono hb2).above hab,(s1'.mono hb2).above hab⟩
     ·rw[ac _ (by omega),ac _ (by omega),ac _ (by omega),ac _ (by omega),ac _ (by omega),ac _ (by omega)];exact d0
     ·rw[ac _ (by omega),ac _ (by omega),ac _ (by omega),ac _ (by omega),ac _ (by omega),ac _ (by omega)];exact d1
     ·rw[ac _ (by omega),ac _ (by omega),ac _ (by omega),ac _ (by omega),ac _ (by omega),ac _ (by omega)];exact d2
     ·rw[ac _ (by omega),ac _ (by omega),ac _ (by omega),ac _ (by omega),ac _ (by omega),ac _ (by omega)];exact d3
     ·rw[ac _ (by omega),ac _ (by omega),ac _ (by omega),ac _ (by omega),ac _ (by omega),ac _ (by omega)];exact d4
     ·rw[ac _ (by omega),ac _ (by omega),ac _ (by omega),ac _ (by omega),ac _ (by omega),ac _ (by omega)];exact d5
   case measure=>simp[intOf];omega
  ·go_wp2;go_ret
   refine⟨rfl,⟨fun j hj=>?_,w.heap.size,rfl,Nat.le_refl _,cur,hblk,hsz,fun j hj=>?_⟩,hb⟩
   ·obtain⟨g0',g1',d0,d1,d2,d3,d4,d5,s0',s1'⟩:=hdone j hj (by omega);exact⟨w.heap.size,0,some ⟨g0',0,none⟩,xs[j].ops.length,some ⟨g1',0,none⟩,xs[j].exits.length,rfl,Nat.le_refl _,by rw[aa hblk,Nat.zero_add];exact d0,by rw[aa hblk,Nat.zero_add];exact d1,by rw[aa hblk,Nat.zero_add];exact d2,by rw[aa hblk,Nat.zero_add];exact d3,by rw[aa hblk,Nat.zero_add];exact d4,by rw[aa hblk,Nat.zero_add];exact d5,s0'.at_.low (by omega),s1'.at_.low (by omega)⟩
   ·obtain⟨g0',g1',d0,d1,d2,d3,d4,d5,s0',s1'⟩:=hdone j hj (by omega);exact⟨by rw[d0];exact aW _ _,by rw[d1];exact aW _ _,by rw[d2];exact aW _ _,by rw[d3];exact aW _ _,g0',g1',d4,d5,s0'.of.low (by omega),s1'.of.low (by omega)⟩
theorem toTier_b(fa ha oa:Option Addr)(fc hc oc:Nat)(sa:Option Addr)(sc:Nat)(ca:Option Addr)(cc:Nat)(la:Option Addr)(lc:Nat)(D:TrD)(w:World)(hx:cC D)(hm:TrAt w 0 fa ha oa sa ca la D) :
  Calls Tryz.prog 8 #[.agg (bD fa ha oa fc hc oc sa sc ca cc la lc D)] w fun e w'=>∃g g2 g3 g4 g5 g6,e=.returned (.agg (bD (some ⟨g,0,none⟩) (some ⟨g2,0,none⟩) (some ⟨g3,0,none⟩) D.vm.frames.length D.vm.heap.length D.vm.out.length (some ⟨g4,0,none⟩) D.sites.length (some ⟨g5,0,none⟩) D.codes.length (some ⟨g6,0,none⟩) D.fails.length D))/\TrB w' w.heap.size g g2 g3 g4 g5 g6 D/\Below w.heap.size w w':=by
 unfold bD;have hbA:Below w.heap.size w (((w.alloc (.cells #[.slice fa D.vm.frames.length fc,.slice ha D.vm.heap.length hc,.int .i64 D.vm.made,.slice oa D.vm.out.length oc,.int .i64 D.vm.status,.int .i64 D.vm.trap,.int .i64 D.vm.value.k,.int .i64 D.vm.value.n,.string D.vm.value.s,.int .i64 D.vm.steps,.slice sa D.sites.length sc,.slice ca D.codes.length cc,.slice la D.fails.length lc,.int .i64 D.guards,.int .i64 D.entered] 36)).alloc (.cells #[.slice none 0 0,.slice none 0 0,.int .i64 0,.slice none 0 0,.int .i64 0,.int .i64 0,.int .i64 0,.int .i64 0,.string ⟨#[]⟩,.int .i64 0,.slice none 0 0,.slice none 0 0,.slice none 0 0,.int .i64 0,.int .i64 0] 53)).alloc (.cells #[.slice none 0 0,.slice none 0 0,.int .i64 0,.slice none 0 0,.int .i64 0,.int .i64 0,.int .i64 0,.int .i64 0,.string ⟨#[]⟩,.int .i64 0,.slice none 0 0,.slice none 0 0,.slice none 0 0,.int .i64 0,.int .i64 0] 53)):=((gM.alloc nL _).alloc (by simp) _).alloc (by simp;omega) _;have hI0:=al (al (ah w #[.slice fa D.vm.frames.length fc,.slice ha D.vm.heap.length hc,.int .i64 D.vm.made,.slice oa D.vm.out.length oc,.int .i64 D.vm.status,.int .i64 D.vm.trap,.int .i64 D.vm.value.k,.int .i64 D.vm.value.n,.string D.vm.value.s,.int .i64 D.vm.steps,.slice sa D.sites.length sc,.slice ca D.codes.length cc,.slice la D.fails.length lc,.int .i64 D.guards,.int .i64 D.entered] 36) (.cells #[.slice none 0 0,.slice none 0 0,.int .i64 0,.slice none 0 0,.int .i64 0,.int .i64 0,.int .i64 0,.int .i64 0,.string ⟨#[]⟩,.int .i64 0,.slice none 0 0,.slice none 0 0,.slice none 0 0,.int .i64 0,.int .i64 0] 53)) (.cells #[.slice none 0 0,.slice none 0 0,.int .i64 0,.slice none 0 0,.int .i64 0,.int .i64 0,.int .i64 0,.int .i64 0,.string ⟨#[]⟩,.int .i64 0,.slice none 0 0,.slice none 0 0,.slice none 0 0,.int .i64 0,.int .i64 0] 53)
 have hR0:=al (ah (w.alloc (.cells #[.slice fa D.vm.frames.length fc,.slice ha D.vm.heap.length hc,.int .i64 D.vm.made,.slice oa D.vm.out.length oc,.int .i64 D.vm.status,.int .i64 D.vm.trap,.int .i64 D.vm.value.k,.int .i64 D.vm.value.n,.string D.vm.value.s,.int .i64 D.vm.steps,.slice sa D.sites.length sc,.slice ca D.codes.length cc,.slice la D.fails.length lc,.int .i64 D.guards,.int .i64 D.entered] 36)) #[.slice none 0 0,.slice none 0 0,.int .i64 0,.slice none 0 0,.int .i64 0,.int .i64 0,.int .i64 0,.int .i64 0,.string ⟨#[]⟩,.int .i64 0,.slice none 0 0,.slice none 0 0,.slice none 0 0,.int .i64 0,.int .i64 0] 53) (.cells #[.slice none 0 0,.slice none 0 0,.int .i64 0,.slice none 0 0,.int .i64 0,.int .i64 0,.int .i64 0,.int .i64 0,.string ⟨#[]⟩,.int .i64 0,.slice none 0 0,.slice none 0 0,.slice none 0 0,.int .i64 0,.int .i64 0] 53);have hO0:=ah ((w.alloc (.cells #[.slice fa D.vm.frames.length fc,.slice ha D.vm.heap.length hc,.int .i64 D.vm.made,.slice oa D.vm.out.length oc,.int .i64 D.vm.status,.int .i64 D.vm.trap,.int .i64 D.vm.value.k,.int .i64 D.vm.value.n,.string D.vm.value.s,.int .i64 D.vm.steps,.slice sa D.sites.length sc,.slice ca D.codes.length cc,.slice la D.fails.length lc,.int .i64 D.guards,.int .i64 D.entered] 36)).alloc (.cells #[.slice none 0 0,.slice none 0 0,.int .i64 0,.slice none 0 0,.int .i64 0,.int .i64 0,.int .i64 0,.int .i64 0,.string ⟨#[]⟩,.int .i64 0,.slice none 0 0,.slice none 0 0,.slice none 0 0,.int .i64 0,.int .i64 0] 53)) #[.slice none 0 0,.slice none 0 0,.int .i64 0,.slice none 0 0,.int .i64 0,.int .i64 0,.int .i64 0,.int .i64 0,.string ⟨#[]⟩,.int .i64 0,.slice none 0 0,.slice none 0 0,.slice none 0 0,.int .i64 0,.int .i64 0] 53
 simp only[World.size_alloc] at hR0 hO0
 have hcall:=toVm_b fa ha oa fc hc oc D.vm (((w.alloc (.cells #[.slice fa D.vm.frames.length fc,.slice ha D.vm.heap.length hc,.int .i64 D.vm.made,.slice oa D.vm.out.length oc,.int .i64 D.vm.status,.int .i64 D.vm.trap,.int .i64 D.vm.value.k,.int .i64 D.vm.value.n,.string D.vm.value.s,.int .i64 D.vm.steps,.slice sa D.sites.length sc,.slice ca D.codes.length cc,.slice la D.fails.length lc,.int .i64 D.guards,.int .i64 D.entered] 36)).alloc (.cells #[.slice none 0 0,.slice none 0 0,.int .i64 0,.slice none 0 0,.int .i64 0,.int .i64 0,.int .i64 0,.int .i64 0,.string ⟨#[]⟩,.int .i64 0,.slice none 0 0,.slice none 0 0,.slice none 0 0,.int .i64 0,.int .i64 0] 53)).alloc (.cells #[.slice none 0 0,.slice none 0 0,.int .i64 0,.slice none 0 0,.int .i64 0,.int .i64 0,.int .i64 0,.int .i64 0,.string ⟨#[]⟩,.int .i64 0,.slice none 0 0,.slice none 0 0,.slice none 0 0,.int .i64 0,.int .i64 0] 53)) hx.vm (hm.vm.mono hbA);unfold aQ at hcall;go_enter Tryz.func8,Tryz.ntmps8
 go_wp2_with fail
 refine (hcall).mono ?_;rintro e w1 ⟨g,g2,g3,rfl,hnew,hbn⟩;simp only[World.size_alloc] at hnew
 have hI1:=ab hI0 hbn;have hR1:=ab hR0 hbn;have hO1:=ab hO0 hbn;have hB1:=hbA.trans (hbn.mono hbA.size);have qv:=hnew;clear hI0 hR0 hO0 hbA hcall hbn hnew;obtain⟨x1,hx1⟩:∃x1,x1=((((((((((w1.setCell ⟨w.heap.size+1+1,0,none⟩ (.slice (some ⟨g,0,none⟩) D.vm.frames.length D.vm.frames.length)).setCell ⟨w.heap.size+1+1,1,none⟩ (.slice (some ⟨g2,0,none⟩) D.vm.heap.length D.vm.heap.length)).setCell ⟨w.heap.size+1+1,2,none⟩ (.int .i64 D.vm.made)).setCell ⟨w.heap.size+1+1,3,none⟩ (.slice (some ⟨g3,0,none⟩) D.vm.out.length D.vm.out.length)).setCell ⟨w.heap.size+1+1,4,none⟩ (.int .i64 D.vm.status)).setCell ⟨w.heap.size+1+1,5,none⟩ (.int .i64 D.vm.trap)).setCell ⟨w.heap.size+1+1,6,none⟩ (.int .i64 D.vm.value.k)).setCell ⟨w.heap.size+1+1,7,none⟩ (.int .i64 D.vm.value.n)).setCell ⟨w.heap.size+1+1,8,none⟩ (.string D.vm.value.s)).setCell ⟨w.heap.size+1+1,9,none⟩ (.int .i64 D.vm.steps)):=⟨_,rfl⟩;have hOx:x1.heap[w.heap.size+1+1]?=some (.cells #[.slice (some ⟨g,0,none⟩) D.vm.frames.length D.vm.frames.length,.slice (some ⟨g2,0,none⟩) D.vm.heap.length D.vm.heap.length,.int .i64 D.vm.made,.slice (some ⟨g3,0,none⟩) D.vm.out.length D.vm.out.length,.int .i64 D.vm.status,.int .i64 D.vm.trap,.int .i64 D.vm.value.k,.int .i64 D.vm.value.n,.string D.vm.value.s,.int .i64 D.vm.steps,.slice none 0 0,.slice none 0 0,.slice none 0 0,.int .i64 0,.int .i64 0] 53 (0,0)):=by rw[hx1];simpa using (ao (i:=9) (ao (i:=8) (ao (i:=7) (ao (i:=6) (ao (i:=5) (ao (i:=4) (ao (i:=3) (ao (i:=2) (ao (i:=1) (ao (i:=0) hO1 (.slice (some ⟨g,0,none⟩) D.vm.frames.length D.vm.frames.length)) (.slice (some ⟨g2,0,none⟩) D.vm.heap.length D.vm.heap.length)) (.int .i64 D.vm.made)) (.slice (some ⟨g3,0,none⟩) D.vm.out.length D.vm.out.length)) (.int .i64 D.vm.status)) (.int .i64 D.vm.trap)) (.int .i64 D.vm.value.k)) (.int .i64 D.vm.value.n)) (.string D.vm.value.s)) (.int .i64 D.vm.steps))
 have hRx:x1.heap[w.heap.size+1]?=some (.cells #[.slice none 0 0,.slice none 0 0,.int .i64 0,.slice none 0 0,.int .i64 0,.int .i64 0,.int .i64 0,.int .i64 0,.string ⟨#[]⟩,.int .i64 0,.slice none 0 0,.slice none 0 0,.slice none 0 0,.int .i64 0,.int .i64 0] 53 (0,0)):=by rw[hx1,Below.heap_setCell _ _ _ _ (by simp),Below.heap_setCell _ _ _ _ (by simp),Below.heap_setCell _ _ _ _ (by simp),Below.heap_setCell _ _ _ _ (by simp),Below.heap_setCell _ _ _ _ (by simp),Below.heap_setCell _ _ _ _ (by simp),Below.heap_setCell _ _ _ _ (by simp),Below.heap_setCell _ _ _ _ (by simp),Below.heap_setCell _ _ _ _ (by simp),Below.heap_setCell _ _ _ _ (by simp)];exact hR1
 have hIx:x1.heap[w.heap.size]?=some (.cells #[.slice fa D.vm.frames.length fc,.slice ha D.vm.heap.length hc,.int .i64 D.vm.made,.slice oa D.vm.out.length oc,.int .i64 D.vm.status,.int .i64 D.vm.trap,.int .i64 D.vm.value.k,.int .i64 D.vm.value.n,.string D.vm.value.s,.int .i64 D.vm.steps,.slice sa D.sites.length sc,.slice ca D.codes.length cc,.slice la D.fails.length lc,.int .i64 D.guards,.int .i64 D.entered] 36 (0,0)):=by rw[hx1,Below.heap_setCell _ _ _ _ (by simp;omega),Below.heap_setCell _ _ _ _ (by simp;omega),Below.heap_setCell _ _ _ _ (by simp;omega),Below.heap_setCell _ _ _ _ (by simp;omega),Below.heap_setCell _ _ _ _ (by simp;omega),Below.heap_setCell _ _ _ _ (by simp;omega),Below.heap_setCell _ _ _ _ (by simp;omega),Below.heap_setCell _ _ _ _ (by simp;omega),Below.heap_setCell _ _ _ _ (by simp;omega),Below.heap_setCell _ _ _ _ (by simp;omega)];exact hI1
 have hBx:Below w.heap.size w x1:=by rw[hx1];exact ((((((((((hB1.setCell (by simp;omega) _).setCell (by simp;omega) _).setCell (by simp;omega) _).setCell (by simp;omega) _).setCell (by simp;omega) _).setCell (by simp;omega) _).setCell (by simp;omega) _).setCell (by simp;omega) _).setCell (by simp;omega) _).setCell (by simp;omega) _)
 have hzx:w.heap.size+1+1+1<=x1.heap.size:=aq hOx;have qvx:=qv.above (w':=x1) (by rw[hx1];exact (((((((((((aL.refl _ _).setCell (by simp) _).setCell (by simp) _).setCell (by simp) _).setCell (by simp) _).setCell (by simp) _).setCell (by simp) _).setCell (by simp) _).setCell (by simp) _).setCell (by simp) _).setCell (by simp) _));have i1:=aa hI1;have o1:=aa hO1;have o2:=am hO1;go_wp2_with fail
 rw[<-hx1];clear hx1 i1 o1 o2 hI1 hR1 hO1 hB1 qv;refine (toSiteS_made sa D.sites sc _ hx.sites (hm.sites.mono hBx)).mono ?_;rintro e w2 ⟨rfl,hn1,hbn,cu,hcu,hcs⟩;have hn2:QB w2 x1.heap.size x1.heap.size 113 D.sites.length:=⟨Nat.le_refl _,cu,hcu,hcs⟩;clear hcu hcs cu;have hI2:=ab hIx hbn;have hR2:=ab hRx hbn;have hO2:=ab hOx hbn;have hB2:=hBx.trans (hbn.mono hBx.size);have qv:=qvx.mono hbn;have qs:=hn1.low hzx;have qb:=hn2.low hzx;clear hIx hRx hOx hBx hbn qvx hn1 hn2;clear hzx;obtain⟨x2,hx2⟩:∃x2,x2=(w2.setCell ⟨w.heap.size+1+1,10,none⟩ (.slice (some ⟨x1.heap.size,0,none⟩) D.sites.length D.sites.length)):=⟨_,rfl⟩;have hOx:x2.heap[w.heap.size+1+1]?=some (.cells #[.slice (some ⟨g,0,none⟩) D.vm.frames.length D.vm.frames.length,.slice (some ⟨g2,0,none⟩) D.vm.heap.length D.vm.heap.length,.int .i64 D.vm.made,.slice (some ⟨g3,0,none⟩) D.vm.out.length D.vm.out.length,.int .i64 D.vm.status,.int .i64 D.vm.trap,.int .i64 D.vm.value.k,.int .i64 D.vm.value.n,.string D.vm.value.s,.int .i64 D.vm.steps,.slice (some ⟨x1.heap.size,0,none⟩) D.sites.length D.sites.length,.slice none 0 0,.slice none 0 0,.int .i64 0,.int .i64 0] 53 (0,0)):=by rw[hx2];simpa using (ao (i:=10) hO2 (.slice (some ⟨x1.heap.size,0,none⟩) D.sites.length D.sites.length))
 have hRx:x2.heap[w.heap.size+1]?=some (.cells #[.slice none 0 0,.slice none 0 0,.int .i64 0,.slice none 0 0,.int .i64 0,.int .i64 0,.int .i64 0,.int .i64 0,.string ⟨#[]⟩,.int .i64 0,.slice none 0 0,.slice none 0 0,.slice none 0 0,.int .i64 0,.int .i64 0] 53 (0,0)):=by rw[hx2,Below.heap_setCell _ _ _ _ (by simp)];exact hR2
 have hIx:x2.heap[w.heap.size]?=some (.cells #[.slice fa D.vm.frames.length fc,.slice ha D.vm.heap.length hc,.int .i64 D.vm.made,.slice oa D.vm.out.length oc,.int .i64 D.vm.status,.int .i64 D.vm.trap,.int .i64 D.vm.value.k,.int .i64 D.vm.value.n,.string D.vm.value.s,.int .i64 D.vm.steps,.slice sa D.sites.length sc,.slice ca D.codes.length cc,.slice la D.fails.length lc,.int .i64 D.guards,.int .i64 D.entered] 36 (0,0)):=by rw[hx2,Below.heap_setCell _ _ _ _ (by simp;omega)];exact hI2
 have hBx:Below w.heap.size w x2:=by rw[hx2];exact (hB2.setCell (by simp;omega) _)
 have hzx:w.heap.size+1+1+1<=x2.heap.size:=aq hOx;have qvx:=qv.above (w':=x2) (by rw[hx2];exact ((aL.refl _ _).setCell (by simp) _));have qsx:=qs.above (w':=x2) (by rw[hx2];exact ((aL.refl _ _).setCell (by simp) _));have qbx:=qb.above (w':=x2) (by rw[hx2];exact ((aL.refl _ _).setCell (by simp) _));have i1:=aa hI2;have o1:=aa hO2;have o2:=am hO2;go_wp2_with fail
 rw[<-hx2];clear hx2 i1 o1 o2 hI2 hR2 hO2 hB2 qv qs qb;refine (toFastS_b ca D.codes cc _ hx.codes (hm.codes.mono hBx)).mono ?_;rintro e w3 ⟨rfl,hnew,hbn⟩;have hI3:=ab hIx hbn;have hR3:=ab hRx hbn;have hO3:=ab hOx hbn;have hB3:=hBx.trans (hbn.mono hBx.size);have qv:=qvx.mono hbn;have qs:=qsx.mono hbn;have qb:=qbx.mono hbn;have qc:=hnew.low hzx;clear hIx hRx hOx hBx hbn qvx qsx qbx hnew;clear hzx;obtain⟨x3,hx3⟩:∃x3,x3=(w3.setCell ⟨w.heap.size+1+1,11,none⟩ (.slice (some ⟨x2.heap.size,0,none⟩) D.codes.length D.codes.length)):=⟨_,rfl⟩;have hOx:x3.heap[w.heap.size+1+1]?=some (.cells #[.slice (some ⟨g,0,none⟩) D.vm.frames.length D.vm.frames.length,.slice (some ⟨g2,0,none⟩) D.vm.heap.length D.vm.heap.length,.int .i64 D.vm.made,.slice (some ⟨g3,0,none⟩) D.vm.out.length D.vm.out.length,.int .i64 D.vm.status,.int .i64 D.vm.trap,.int .i64 D.vm.value.k,.int .i64 D.vm.value.n,.string D.vm.value.s,.int .i64 D.vm.steps,.slice (some ⟨x1.heap.size,0,none⟩) D.sites.length D.sites.length,.slice (some ⟨x2.heap.size,0,none⟩) D.codes.length D.codes.length,.slice none 0 0,.int .i64 0,.int .i64 0] 53 (0,0)):=by rw[hx3];simpa using (ao (i:=11) hO3 (.slice (some ⟨x2.heap.size,0,none⟩) D.codes.length D.codes.length))
 have hRx:x3.heap[w.heap.size+1]?=some (.cells #[.slice none 0 0,.slice none 0 0,.int .i64 0,.slice none 0 0,.int .i64 0,.int .i64 0,.int .i64 0,.int .i64 0,.string ⟨#[]⟩,.int .i64 0,.slice none 0 0,.slice none 0 0,.slice none 0 0,.int .i64 0,.int .i64 0] 53 (0,0)):=by rw[hx3,Below.heap_setCell _ _ _ _ (by simp)];exact hR3
 have hIx:x3.heap[w.heap.size]?=some (.cells #[.slice fa D.vm.frames.length fc,.slice ha D.vm.heap.length hc,.int .i64 D.vm.made,.slice oa D.vm.out.length oc,.int .i64 D.vm.status,.int .i64 D.vm.trap,.int .i64 D.vm.value.k,.int .i64 D.vm.value.n,.string D.vm.value.s,.int .i64 D.vm.steps,.slice sa D.sites.length sc,.slice ca D.codes.length cc,.slice la D.fails.length lc,.int .i64 D.guards,.int .i64 D.entered] 36 (0,0)):=by rw[hx3,Below.heap_setCell _ _ _ _ (by simp;omega)];exact hI3
 have hBx:Below w.heap.size w x3:=by rw[hx3];exact (hB3.setCell (by simp;omega) _)
 have hzx:w.heap.size+1+1+1<=x3.heap.size:=aq hOx;have qvx:=qv.above (w':=x3) (by rw[hx3];exact ((aL.refl _ _).setCell (by simp) _));have qsx:=qs.above (w':=x3) (by rw[hx3];exact ((aL.refl _ _).setCell (by simp) _));have qbx:=qb.above (w':=x3) (by rw[hx3];exact ((aL.refl _ _).setCell (by simp) _));have qcx:=qc.above (w':=x3) (by rw[hx3];exact ((aL.refl _ _).setCell (by simp) _));have i1:=aa hI3;have o1:=aa hO3;have o2:=am hO3;go_wp2_with fail
 rw[<-hx3];clear hx3 i1 o1 o2 hI3 hR3 hO3 hB3 qv qs qb qc;refine (toFailS_made la D.fails lc _ hx.fails (hm.fails.mono hBx)).mono ?_;rintro e w4 ⟨rfl,hn1,hbn,cu,hcu,hcs⟩;have hn2:QB w4 x3.heap.size x3.heap.size 104 D.fails.length:=⟨Nat.le_refl _,cu,hcu,hcs⟩;clear hcu hcs cu;have hI4:=ab hIx hbn;have hR4:=ab hRx hbn;have hO4:=ab hOx hbn;have hB4:=hBx.trans (hbn.mono hBx.size);have qv:=qvx.mono hbn;have qs:=qsx.mono hbn;have qb:=qbx.mono hbn;have qc:=qcx.mono hbn;have qf:=hn1.low hzx;have qd:=hn2.low hzx;clear hIx hRx hOx hBx hbn qvx qsx qbx qcx hn1 hn2;clear hzx;have i1:=aa hI4;have r1:=aa hR4;have r2:=am hR4;have o1:=aa hO4;have o2:=am hO4;have hzy:w.heap.size+1+1<w4.heap.size:=aq hO4;go_wp2;refine bodyPost_ret (v:=.agg #[.slice (some ⟨g,0,none⟩) D.vm.frames.length D.vm.frames.length,.slice (some ⟨g2,0,none⟩) D.vm.heap.length D.vm.heap.length,.int .i64 D.vm.made,.slice (some ⟨g3,0,none⟩) D.vm.out.length D.vm.out.length,.int .i64 D.vm.status,.int .i64 D.vm.trap,.int .i64 D.vm.value.k,.int .i64 D.vm.value.n,.string D.vm.value.s,.int .i64 D.vm.steps,.slice (some ⟨x1.heap.size,0,none⟩) D.sites.length D.sites.length,.slice (some ⟨x2.heap.size,0,none⟩) D.codes.length D.codes.length,.slice (some ⟨x3.heap.size,0,none⟩) D.fails.length D.fails.length,.int .i64 D.guards,.int .i64 D.entered]) (by simp[results,Tryz.results8,go_sem,r1]) rfl ⟨_,_,_,_,_,_,rfl,⟨?_,?_,?_,?_,?_,?_⟩,?_⟩
 ·exact (qv.above (((((((((((((((((((aL.refl _ _).setCell (by simp) _).setCell (by simp) _).setCell (by simp) _).setCell (by simp) _).setCell (by simp) _).setCell (by simp) _).setCell (by simp) _).setCell (by simp) _).setCell (by simp) _).setCell (by simp) _).setCell (by simp) _).setCell (by simp) _).setCell (by simp) _).setCell (by simp) _).setCell (by simp) _).setCell (by simp) _).setCell (by simp) _).setCell (by simp) _)).low (by omega)
 ·exact (qs.above (((((((((((((((((((aL.refl _ _).setCell (by simp) _).setCell (by simp) _).setCell (by simp) _).setCell (by simp) _).setCell (by simp) _).setCell (by simp) _).setCell (by simp) _).setCell (by simp) _).setCell (by simp) _).setCell (by simp) _).setCell (by simp) _).setCell (by simp) _).setCell (by simp) _).setCell (by simp) _).setCell (by simp) _).setCell (by simp) _).setCell (by simp) _).setCell (by simp) _)).low (by omega)
 ·exact (qb.above (((((((((((((((((((aL.refl _ _).setCell (by simp) _).setCell (by simp) _).setCell (by simp) _).setCell (by simp) _).setCell (by simp) _).setCell (by simp) _).setCell (by simp) _).setCell (by simp) _).setCell (by simp) _).setCell (by simp) _).setCell (by simp) _).setCell (by simp) _).setCell (by simp) _).setCell (by simp) _).setCell (by simp) _).setCell (by simp) _).setCell (by simp) _).setCell (by simp) _)).low (by omega)
 ·exact (qc.above (((((((((((((((((((aL.refl _ _).setCell (by simp) _).setCell (by simp) _).setCell (by simp) _).setCell (by simp) _).setCell (by simp) _).setCell (by simp) _).setCell (by simp) _).setCell (by simp) _).setCell (by simp) _).setCell (by simp) _).setCell (by simp) _).setCell (by simp) _).setCell (by simp) _).setCell (by simp) _).setCell (by simp) _).setCell (by simp) _).setCell (by simp) _).setCell (by simp) _)).low (by omega)
 ·exact (qf.above (((((((((((((((((((aL.refl _ _).setCell (by simp) _).setCell (by simp) _).setCell (by simp) _).setCell (by simp) _).setCell (by simp) _).setCell (by simp) _).setCell (by simp) _).setCell (by simp) _).setCell (by simp) _).setCell (by simp) _).setCell (by simp) _).setCell (by simp) _).setCell (by simp) _).setCell (by simp) _).setCell (by simp) _).setCell (by simp) _).setCell (by simp) _).setCell (by simp) _)).low (by omega)
 ·exact (qd.above (((((((((((((((((((aL.refl _ _).setCell (by simp) _).setCell (by simp) _).setCell (by simp) _).setCell (by simp) _).setCell (by simp) _).setCell (by simp) _).setCell (by simp) _).setCell (by simp) _).setCell (by simp) _).setCell (by simp) _).setCell (by simp) _).setCell (by simp) _).setCell (by simp) _).setCell (by simp) _).setCell (by simp) _).setCell (by simp) _).setCell (by simp) _).setCell (by simp) _)).low (by omega)
 ·exact ((((((((((((((((((hB4.setCell (by simp;first | done | omega) _).setCell (by simp;first | done | omega) _).setCell (by simp;first | done | omega) _).setCell (by simp;first | done | omega) _).setCell (by simp;first | done | omega) _).setCell (by simp;first | done | omega) _).setCell (by simp;first | done | omega) _).setCell (by simp;first | done | omega) _).setCell (by simp;first | done | omega) _).setCell (by simp;first | done | omega) _).setCell (by simp;first | done | omega) _).setCell (by simp;first | done | omega) _).setCell (by simp;first | done | omega) _).setCell (by simp;first | done | omega) _).setCell (by simp;first | done | omega) _).setCell (by simp;first | done | omega) _).setCell (by simp;first | done | omega) _).setCell (by simp;first | done | omega) _)
theorem eqFastE_any(x:aH)(a0 b0:Option Addr)(c0 e0:Nat)(a1 b1:Option Addr)(c1 e1:Nat)(w:World)(hn0:aU cL x.ops)(p0:bS w 0 a0 x.ops)(q0:bS w 0 b0 x.ops)(hn1:aU ck x.exits)(p1:bV w 0 a1 x.exits)(q1:bV w 0 b1 x.exits) :
  Calls Tryz.prog 75 #[.agg #[.int .i64 x.fn,.int .i64 x.entry,.int .i64 x.vals,.int .i64 x.nums,.slice a0 x.ops.length c0,.slice a1 x.exits.length c1],.agg #[.int .i64 x.fn,.int .i64 x.entry,.int .i64 x.vals,.int .i64 x.nums,.slice b0 x.ops.length e0,.slice b1 x.exits.length e1]] w fun e w'=>e=.returned (.bool true)/\Below w.heap.size w w':=by
 have hbA:Below w.heap.size w ((w.alloc (.cells #[.int .i64 x.fn,.int .i64 x.entry,.int .i64 x.vals,.int .i64 x.nums,.slice a0 x.ops.length c0,.slice a1 x.exits.length c1] 101)).alloc (.cells #[.int .i64 x.fn,.int .i64 x.entry,.int .i64 x.vals,.int .i64 x.nums,.slice b0 x.ops.length e0,.slice b1 x.exits.length e1] 101)):=(gM.alloc nL _).alloc (by simp) _;have hX0:=al (ah w #[.int .i64 x.fn,.int .i64 x.entry,.int .i64 x.vals,.int .i64 x.nums,.slice a0 x.ops.length c0,.slice a1 x.exits.length c1] 101) (.cells #[.int .i64 x.fn,.int .i64 x.entry,.int .i64 x.vals,.int .i64 x.nums,.slice b0 x.ops.length e0,.slice b1 x.exits.length e1] 101);have hY0:=ah (w.alloc (.cells #[.int .i64 x.fn,.int .i64 x.entry,.int .i64 x.vals,.int .i64 x.nums,.slice a0 x.ops.length c0,.slice a1 x.exits.length c1] 101)) #[.int .i64 x.fn,.int .i64 x.entry,.int .i64 x.vals,.int .i64 x.nums,.slice b0 x.ops.length e0,.slice b1 x.exits.length e1] 101;simp only[World.size_alloc] at hY0
 go_enter Tryz.func75,Tryz.ntmps75
 go_wp2_with fail
 refine (eqFOpS_any _ _ x.ops _ _ _ hn0 (p0.mono hbA) (q0.mono hbA)).mono ?_;rintro e w1 ⟨rfl,hb⟩;have hB1:=hbA.trans (hb.mono hbA.size);have hX1:=ab hX0 hb;have hY1:=ab hY0 hb;clear hb;have x1:=aa hX1;have y1:=aa hY1;go_wp2_with fail
 refine (eqExitS_any _ _ x.exits _ _ _ hn1 (p1.mono hB1) (q1.mono hB1)).mono ?_;rintro e w2 ⟨rfl,hb⟩;have hB2:=hB1.trans (hb.mono hB1.size);have hX2:=ab hX1 hb;have hY2:=ab hY1 hb;clear x1 y1 hb;have x2:=aa hX2;have y2:=aa hY2;go_wp2;go_ret
 exact⟨rfl,hB2⟩
theorem eqFastS_any(a a':Option Addr)(xs:List aH)(cap cap2:Nat)(w:World)(hx:aU bK xs)(hm:cH w 0 a xs)(hm2:cH w 0 a' xs) :
  Calls Tryz.prog 35 #[.slice a xs.length cap,.slice a' xs.length cap2] w fun e w'=>e=.returned (.bool true)/\Below w.heap.size w w':=by
 obtain⟨hn,hc⟩:=hx;go_enter Tryz.func35,Tryz.ntmps35
 go_wp2;go_loopw [5] (fun i wr=>∃(k:Nat),k<=xs.length/\i=.int .i64 k/\Below w.heap.size w wr) (fun i _=>xs.length-(intOf i).toNat)
 case atStart=>exact⟨0,by omega,rfl,Below.refl _ _⟩
 case round=>
  obtain⟨k,hk,rfl,hb⟩:=hrel;by_cases hlt:k<xs.length
  ·obtain⟨b,off,a0,c0,a1,c1,rfl,-,d0,d1,d2,d3,d4,d5,p0,p1⟩:=hm k hlt;obtain⟨b',off',b0,e0,b1,e1,rfl,-,k0,k1,k2,k3,k4,k5,q0,q1⟩:=hm2 k hlt;have d0':=cell_later hb d0;have k0':=cell_later hb k0;have d1':=cell_later hb d1;have k1':=cell_later hb k1;have d2':=cell_later hb d2;have k2':=cell_later hb k2;have d3':=cell_later hb d3;have k3':=cell_later hb k3;have d4':=cell_later hb d4;have k4':=cell_later hb k4;have d5':=cell_later hb d5;have k5':=cell_later hb k5;have hc0:=(hc xs[k] (n_l hlt)).1;have hc1:=(hc xs[k] (n_l hlt)).2;clear d0 k0 d1 k1 d2 k2 d3 k3 d4 k4 d5 k5;go_wp2;go_region_with (go_at_call 75;refine (eqFastE_any xs[k] _ _ _ _ _ _ _ _ _ hc0 (by exact p0.mono (by repeat (first | exact hb | apply Below.drew))) (by exact q0.mono (by repeat (first | exact hb | apply Below.drew))) hc1 (by exact p1.mono (by repeat (first | exact hb | apply Below.drew))) (by exact q1.mono (by repeat (first | exact hb | apply Below.drew)))).mono ?_;rintro e w1 ⟨rfl,hb1⟩)
   all_goals
    go_wp2;go_roundw
    case rel=>
     refine⟨k+1,by omega,by go_num,Below.trans ?_ (hb1.mono ?_)⟩
     ·repeat (first | exact hb | apply Below.drew)
     ·exact hb.size
    case measure=>simp[intOf];omega
  ·go_wp2;go_ret
   exact⟨rfl,hb⟩
theorem eqTier_any(fa ha oa:Option Addr)(fc hc oc:Nat)(sa:Option Addr)(sc:Nat)(ca:Option Addr)(cc:Nat)(la:Option Addr)(lc:Nat)(fb hb ob:Option Addr)(fe he oe:Nat)(sb:Option Addr)(se:Nat)(cb:Option Addr)(ce:Nat)(lb:Option Addr)(le:Nat)(D:TrD)(w:World)(hx:cC D)(hm:TrAt w 0 fa ha oa sa ca la D)(hm2:TrAt w 0 fb hb ob sb cb lb D) :
  Calls Tryz.prog 11 #[.agg (bD fa ha oa fc hc oc sa sc ca cc la lc D),.agg (bD fb hb ob fe he oe sb se cb ce lb le D)] w fun e w'=>e=.returned (.bool true)/\Below w.heap.size w w':=by
 unfold bD;have hbA:Below w.heap.size w ((w.alloc (.cells #[.slice fa D.vm.frames.length fc,.slice ha D.vm.heap.length hc,.int .i64 D.vm.made,.slice oa D.vm.out.length oc,.int .i64 D.vm.status,.int .i64 D.vm.trap,.int .i64 D.vm.value.k,.int .i64 D.vm.value.n,.string D.vm.value.s,.int .i64 D.vm.steps,.slice sa D.sites.length sc,.slice ca D.codes.length cc,.slice la D.fails.length lc,.int .i64 D.guards,.int .i64 D.entered] 53)).alloc (.cells #[.slice fb D.vm.frames.length fe,.slice hb D.vm.heap.length he,.int .i64 D.vm.made,.slice ob D.vm.out.length oe,.int .i64 D.vm.status,.int .i64 D.vm.trap,.int .i64 D.vm.value.k,.int .i64 D.vm.value.n,.string D.vm.value.s,.int .i64 D.vm.steps,.slice sb D.sites.length se,.slice cb D.codes.length ce,.slice lb D.fails.length le,.int .i64 D.guards,.int .i64 D.entered] 53)):=(gM.alloc nL _).alloc (by simp) _;have hX0:=al (ah w #[.slice fa D.vm.frames.length fc,.slice ha D.vm.heap.length hc,.int .i64 D.vm.made,.slice oa D.vm.out.length oc,.int .i64 D.vm.status,.int .i64 D.vm.trap,.int .i64 D.vm.value.k,.int .i64 D.vm.value.n,.string D.vm.value.s,.int .i64 D.vm.steps,.slice sa D.sites.length sc,.slice ca D.codes.length cc,.slice la D.fails.length lc,.int .i64 D.guards,.int .i64 D.entered] 53) (.cells #[.slice fb D.vm.frames.length fe,.slice hb D.vm.heap.length he,.int .i64 D.vm.made,.slice ob D.vm.out.length oe,.int .i64 D.vm.status,.int .i64 D.vm.trap,.int .i64 D.vm.value.k,.int .i64 D.vm.value.n,.string D.vm.value.s,.int .i64 D.vm.steps,.slice sb D.sites.length se,.slice cb D.codes.length ce,.slice lb D.fails.length le,.int .i64 D.guards,.int .i64 D.entered] 53)
 have hY0:=ah (w.alloc (.cells #[.slice fa D.vm.frames.length fc,.slice ha D.vm.heap.length hc,.int .i64 D.vm.made,.slice oa D.vm.out.length oc,.int .i64 D.vm.status,.int .i64 D.vm.trap,.int .i64 D.vm.value.k,.int .i64 D.vm.value.n,.string D.vm.value.s,.int .i64 D.vm.steps,.slice sa D.sites.length sc,.slice ca D.codes.length cc,.slice la D.fails.length lc,.int .i64 D.guards,.int .i64 D.entered] 53)) #[.slice fb D.vm.frames.length fe,.slice hb D.vm.heap.length he,.int .i64 D.vm.made,.slice ob D.vm.out.length oe,.int .i64 D.vm.status,.int .i64 D.vm.trap,.int .i64 D.vm.value.k,.int .i64 D.vm.value.n,.string D.vm.value.s,.int .i64 D.vm.steps,.slice sb D.sites.length se,.slice cb D.codes.length ce,.slice lb D.fails.length le,.int .i64 D.guards,.int .i64 D.entered] 53;simp only[World.size_alloc] at hY0
 have hcall:=eqVm_any fa ha oa fb hb ob fc hc oc fe he oe D.vm ((w.alloc (.cells #[.slice fa D.vm.frames.length fc,.slice ha D.vm.heap.length hc,.int .i64 D.vm.made,.slice oa D.vm.out.length oc,.int .i64 D.vm.status,.int .i64 D.vm.trap,.int .i64 D.vm.value.k,.int .i64 D.vm.value.n,.string D.vm.value.s,.int .i64 D.vm.steps,.slice sa D.sites.length sc,.slice ca D.codes.length cc,.slice la D.fails.length lc,.int .i64 D.guards,.int .i64 D.entered] 53)).alloc (.cells #[.slice fb D.vm.frames.length fe,.slice hb D.vm.heap.length he,.int .i64 D.vm.made,.slice ob D.vm.out.length oe,.int .i64 D.vm.status,.int .i64 D.vm.trap,.int .i64 D.vm.value.k,.int .i64 D.vm.value.n,.string D.vm.value.s,.int .i64 D.vm.steps,.slice sb D.sites.length se,.slice cb D.codes.length ce,.slice lb D.fails.length le,.int .i64 D.guards,.int .i64 D.entered] 53)) hx.vm (hm.vm.mono hbA) (hm2.vm.mono hbA);unfold aQ at hcall;go_enter Tryz.func11,Tryz.ntmps11
 go_wp2_with fail
 refine hcall.mono ?_;rintro e w1 ⟨rfl,hbn⟩;have hB1:=hbA.trans (hbn.mono hbA.size);have hX1:=ab hX0 hbn;have hY1:=ab hY0 hbn;have x1:=aa hX1;have y1:=aa hY1;clear hbA hX0 hY0 hbn hcall;go_wp2_with fail
 refine (eqSiteS_any sa sb D.sites sc se _ hx.sites (hm.sites.mono hB1) (hm2.sites.mono hB1)).mono ?_;rintro e w2 ⟨rfl,hbn⟩;have hB2:=hB1.trans (hbn.mono hB1.size);have hX2:=ab hX1 hbn;have hY2:=ab hY1 hbn;clear x1 y1 hX1 hY1 hB1 hbn;have x2:=aa hX2;have y2:=aa hY2;go_wp2_with fail
 refine (eqFastS_any ca cb D.codes cc ce _ hx.codes (hm.codes.mono hB2) (hm2.codes.mono hB2)).mono ?_;rintro e w3 ⟨rfl,hbn⟩;have hB3:=hB2.trans (hbn.mono hB2.size);have hX3:=ab hX2 hbn;have hY3:=ab hY2 hbn;clear x2 y2 hX2 hY2 hB2 hbn;have x3:=aa hX3;have y3:=aa hY3;go_wp2_with fail
 refine (eqFailS_any la lb D.fails lc le _ hx.fails (hm.fails.mono hB3) (hm2.fails.mono hB3)).mono ?_;rintro e w4 ⟨rfl,hbn⟩;have hB4:=hB3.trans (hbn.mono hB3.size);have hX4:=ab hX3 hbn;have hY4:=ab hY3 hbn;clear x3 y3 hX3 hY3 hB3 hbn;have x4:=aa hX4;have y4:=aa hY4;go_wp2;go_ret
 exact⟨rfl,hB4⟩
end Go.Proofs.YtdlkbbgmjilccaaGreatDoor
namespace Go.Proofs.YtdlkbbgmjilccaaGreatDoor
open Go.RowKit Go.Deep Go.ChangeShapes Go.WideShapes Go.Joins
theorem kc3:Tryz.prog.cellsOf 3=1:=by kernel_rfl
theorem kc9:Tryz.prog.cellsOf 9=1:=by kernel_rfl
theorem kc29:Tryz.prog.cellsOf 29=3:=by kernel_rfl
theorem kc90:Tryz.prog.cellsOf 90=1:=by kernel_rfl
theorem kc91:Tryz.prog.cellsOf 91=1:=by kernel_rfl
theorem kc93:Tryz.prog.cellsOf 93=6:=by kernel_rfl
theorem kc213:Tryz.prog.cellsOf 213=10:=by kernel_rfl
theorem kc215:Tryz.prog.cellsOf 215=4:=by kernel_rfl
theorem kc216:Tryz.prog.cellsOf 216=1:=by kernel_rfl
theorem kc217:Tryz.prog.cellsOf 217=1:=by kernel_rfl
theorem kc219:Tryz.prog.cellsOf 219=7:=by kernel_rfl
theorem kc318:Tryz.prog.cellsOf 318=1:=by kernel_rfl
theorem kc320:Tryz.prog.cellsOf 320=4:=by kernel_rfl
theorem kc323:Tryz.prog.cellsOf 323=1:=by kernel_rfl
theorem kc357:Tryz.prog.cellsOf 357=5:=by kernel_rfl
theorem list1{α:Type}{l:List α}(h:l.length=1):∃v0,l=[v0]:=by
 match l,h with
 | [v0],_=>exact⟨v0,rfl⟩
theorem list4{α:Type}{l:List α}(h:l.length=4):∃v0 v1 v2 v3,l=[v0,v1,v2,v3]:=by
 match l,h with
 | [v0,v1,v2,v3],_=>exact⟨v0,v1,v2,v3,rfl⟩
theorem list5{α:Type}{l:List α}(h:l.length=5):∃v0 v1 v2 v3 v4,l=[v0,v1,v2,v3,v4]:=by
 match l,h with
 | [v0,v1,v2,v3,v4],_=>exact⟨v0,v1,v2,v3,v4,rfl⟩
theorem list6{α:Type}{l:List α}(h:l.length=6):∃v0 v1 v2 v3 v4 v5,l=[v0,v1,v2,v3,v4,v5]:=by
 match l,h with
 | [v0,v1,v2,v3,v4,v5],_=>exact⟨v0,v1,v2,v3,v4,v5,rfl⟩
theorem list7{α:Type}{l:List α}(h:l.length=7):∃v0 v1 v2 v3 v4 v5 v6,l=[v0,v1,v2,v3,v4,v5,v6]:=by
 match l,h with
 | [v0,v1,v2,v3,v4,v5,v6],_=>exact⟨v0,v1,v2,v3,v4,v5,v6,rfl⟩
theorem list10{α:Type}{l:List α}(h:l.length=10):∃v0 v1 v2 v3 v4 v5 v6 v7 v8 v9,l=[v0,v1,v2,v3,v4,v5,v6,v7,v8,v9]:=by
 match l,h with
 | [v0,v1,v2,v3,v4,v5,v6,v7,v8,v9],_=>exact⟨v0,v1,v2,v3,v4,v5,v6,v7,v8,v9,rfl⟩
section
variable {H:Type} {enc:TypeId×Value->H} {w:World} {base:Nat} {spare:Nat->Bool} {held:Bool}
theorem eU{fuel:Nat}{v:Value}{y:DataW H×List MemPlace}(h:DataW.trod enc Tryz.prog w base spare held fuel 318 [v]=some y) :
  ∃a cap xs,v=.slice a xs.length cap/\LMax fm xs/\bq w 0 a xs:=by
 rcases open_slice Tryz.underlying318 h with ⟨hcs,-⟩ | ⟨a,len,cap,m,n,D,Pl,hcs,-,hl,hm,hmm,-,hx⟩
 ·simp at hcs
  exact⟨none,0,[],by simpa using hcs,⟨by simp,by simp⟩,fun i hi=>by simp at hi⟩
 ·simp at hcs
  have hlm:len<=m:=by rw[hmm];split<;>omega
  have inh:Inhabited Sr:=⟨⟨0,0,⟨0,0,⟨#[]⟩⟩⟩⟩;have hplain:∀i,i<m->∃b off,a=⟨b,off,none⟩:=fun i hi=>by
   obtain⟨cs',h1,-⟩:=hx 0 (by omega);rw[kc357] at h1;obtain⟨_,hlen,hcell⟩:=World.cells?_some h1;have e0:=hcell 0 (by omega);rw[add_add] at e0;obtain⟨v0,v1,v2,v3,v4,rfl⟩:=list5 hlen;exact bG (by simpa using e0)
  obtain⟨q,hq⟩:=choose_lt (α:=Sr) (n:=m) (p:=fun i z=>fm z/\∃b off,a=⟨b,off,none⟩/\w.cell? ⟨b,off+i*5,none⟩=some (.int .i64 z.k)/\w.cell? ⟨b,off+i*5+1,none⟩=some (.int .i64 z.n)/\w.cell? ⟨b,off+i*5+2,none⟩=some (.int .i64 z.v.k)/\w.cell? ⟨b,off+i*5+3,none⟩=some (.int .i64 z.v.n)/\w.cell? ⟨b,off+i*5+4,none⟩=some (.string z.v.s)) (fun i hi=>by
   obtain⟨cs',h1,h2⟩:=hx i hi;rw[kc357] at h1;obtain⟨_,hlen,hcell⟩:=World.cells?_some h1;obtain⟨v0,v1,v2,v3,v4,rfl⟩:=list5 hlen;obtain⟨xs,n',-,-,-,hxl0,hf⟩:=DataW.trod_struct Tryz.underlying357 h2;have hxl:xs.length=3:=hxl0;have get:∀i (hi:i<3),xs[i]?=some (xs[i]'(by omega)):=fun i hi=>List.getElem?_eq_getElem (by omega)
   have t0:DataW.trod enc Tryz.prog w base spare held n' 3 [v0]=some (xs[0]'(by omega)):=by rw[<-get 0 (by omega)];simpa[kc3] using hf 0 _ rfl
   have t1:DataW.trod enc Tryz.prog w base spare held n' 3 [v1]=some (xs[1]'(by omega)):=by rw[<-get 1 (by omega)];simpa[kc3] using hf 1 _ rfl
   have t2:DataW.trod enc Tryz.prog w base spare held n' 29 [v2,v3,v4]=some (xs[2]'(by omega)):=by rw[<-get 2 (by omega)];simpa[kc29] using hf 2 _ rfl
   obtain⟨z0,x0,-⟩:=DataW.trod_int Tryz.underlying3 t0;obtain⟨z1,x1,-⟩:=DataW.trod_int Tryz.underlying3 t1;obtain⟨_,_,_,_,-,-,u0,u1,u2⟩:=trod_struct3 Tryz.underlying29 t2;simp[kc3,kc9] at u0 u1 u2
   obtain⟨z2,x2,-⟩:=DataW.trod_int Tryz.underlying3 u0;obtain⟨z3,x3,-⟩:=DataW.trod_int Tryz.underlying3 u1;obtain⟨z4,x4,-,hz4⟩:=DataW.trod_string Tryz.underlying9 u2;simp only[List.cons.injEq,and_true] at x0 x1 x2 x3 x4
   subst x0 x1 x2 x3 x4;have e0:=hcell 0 (by omega);have e1:=hcell 1 (by omega);have e2:=hcell 2 (by omega);have e3:=hcell 3 (by omega);have e4:=hcell 4 (by omega);rw[add_add] at e0 e1 e2 e3 e4;simp at e0 e1 e2 e3 e4
   obtain⟨b,off,rfl⟩:=hplain i hi;rw[Go.WideShapes.add_plain] at e0;rw[Go.WideShapes.add_plain,<-Nat.add_assoc] at e1 e2 e3 e4;exact⟨⟨z0,z1,⟨z2,z3,z4⟩⟩,hz4,b,off,rfl,e0,e1,e2,e3,e4⟩)
  refine⟨some a,cap,(List.range len).map q,by simpa using hcs,⟨by simp;omega,?_⟩,?_⟩
  ·intro f hf;obtain⟨i,hi,rfl⟩:=List.mem_map.1 hf;exact (hq i (by have:=List.mem_range.1 hi;omega)).1
  ·intro i hi;have hi':i<len:=by simpa using hi
   obtain⟨-,b,off,rfl,r0,r1,r2,r3,r4⟩:=hq i (by omega);exact⟨b,off,rfl,Nat.zero_le _,by simpa using r0,by simpa using r1,by simpa using r2,by simpa using r3,by simpa using r4⟩
theorem read_efs{fuel:Nat}{v:Value}{y:DataW H×List MemPlace}(h:DataW.trod enc Tryz.prog w base spare held fuel 216 [v]=some y) :
  ∃a cap xs,v=.slice a xs.length cap/\LMax f5 xs/\bZ w 0 a xs:=by
 rcases open_slice Tryz.underlying216 h with ⟨hcs,-⟩ | ⟨a,len,cap,m,n,D,Pl,hcs,-,hl,hm,hmm,-,hx⟩
 ·simp at hcs
  exact⟨none,0,[],by simpa using hcs,⟨by simp,by simp⟩,fun i hi=>by simp at hi⟩
 ·simp at hcs
  have hlm:len<=m:=by rw[hmm];split<;>omega
  have inh:Inhabited EF:=⟨⟨0,0,[],[]⟩⟩;have hplain:∀i,i<m->∃b off,a=⟨b,off,none⟩:=fun i hi=>by
   obtain⟨cs',h1,-⟩:=hx 0 (by omega);rw[kc320] at h1;obtain⟨_,hlen,hcell⟩:=World.cells?_some h1;have e0:=hcell 0 (by omega);rw[add_add] at e0;obtain⟨v0,v1,v2,v3,rfl⟩:=list4 hlen;exact bG (by simpa using e0)
  obtain⟨q,hq⟩:=choose_lt (α:=EF) (n:=m) (p:=fun i z=>f5 z/\∃b off a0 c0 a1 c1,a=⟨b,off,none⟩/\w.cell? ⟨b,off+i*4,none⟩=some (.int .i64 z.fn)/\w.cell? ⟨b,off+i*4+1,none⟩=some (.int .i64 z.pc)/\w.cell? ⟨b,off+i*4+2,none⟩=some (.slice a0 z.locals.length c0)/\w.cell? ⟨b,off+i*4+3,none⟩=some (.slice a1 z.stack.length c1)/\bq w 0 a0 z.locals/\bq w 0 a1 z.stack) (fun i hi=>by
   obtain⟨cs',h1,h2⟩:=hx i hi;rw[kc320] at h1;obtain⟨_,hlen,hcell⟩:=World.cells?_some h1;obtain⟨v0,v1,v2,v3,rfl⟩:=list4 hlen;obtain⟨xs,n',-,-,-,hxl0,hf⟩:=DataW.trod_struct Tryz.underlying320 h2;have hxl:xs.length=4:=hxl0;have get:∀i (hi:i<4),xs[i]?=some (xs[i]'(by omega)):=fun i hi=>List.getElem?_eq_getElem (by omega)
   have t0:DataW.trod enc Tryz.prog w base spare held n' 3 [v0]=some (xs[0]'(by omega)):=by rw[<-get 0 (by omega)];simpa[kc3] using hf 0 _ rfl
   have t1:DataW.trod enc Tryz.prog w base spare held n' 3 [v1]=some (xs[1]'(by omega)):=by rw[<-get 1 (by omega)];simpa[kc3] using hf 1 _ rfl
   have t2:DataW.trod enc Tryz.prog w base spare held n' 318 [v2]=some (xs[2]'(by omega)):=by rw[<-get 2 (by omega)];simpa[kc318] using hf 2 _ rfl
   have t3:DataW.trod enc Tryz.prog w base spare held n' 318 [v3]=some (xs[3]'(by omega)):=by rw[<-get 3 (by omega)];simpa[kc318] using hf 3 _ rfl
   obtain⟨z0,x0,-⟩:=DataW.trod_int Tryz.underlying3 t0;obtain⟨z1,x1,-⟩:=DataW.trod_int Tryz.underlying3 t1;obtain⟨a0,c0,l0,x2,hl0,hat0⟩:=eU t2;obtain⟨a1,c1,l1,x3,hl1,hat1⟩:=eU t3;simp only[List.cons.injEq,and_true] at x0 x1
   subst x0 x1 x2 x3;have e0:=hcell 0 (by omega);have e1:=hcell 1 (by omega);have e2:=hcell 2 (by omega);have e3:=hcell 3 (by omega);rw[add_add] at e0 e1 e2 e3;simp at e0 e1 e2 e3
   obtain⟨b,off,rfl⟩:=hplain i hi;rw[Go.WideShapes.add_plain] at e0;rw[Go.WideShapes.add_plain,<-Nat.add_assoc] at e1 e2 e3;exact⟨⟨z0,z1,l0,l1⟩,⟨hl0,hl1⟩,b,off,a0,c0,a1,c1,rfl,e0,e1,e2,e3,hat0,hat1⟩)
  refine⟨some a,cap,(List.range len).map q,by simpa using hcs,⟨by simp;omega,?_⟩,?_⟩
  ·intro f hf;obtain⟨i,hi,rfl⟩:=List.mem_map.1 hf;exact (hq i (by have:=List.mem_range.1 hi;omega)).1
  ·intro i hi;have hi':i<len:=by simpa using hi
   obtain⟨-,b,off,a0,c0,a1,c1,rfl,r0,r1,r2,r3,r4,r5⟩:=hq i (by omega);exact⟨b,off,a0,c0,a1,c1,rfl,Nat.zero_le _,by simpa using r0,by simpa using r1,by simpa using r2,by simpa using r3,by simpa using r4,by simpa using r5⟩
theorem read_ers{fuel:Nat}{v:Value}{y:DataW H×List MemPlace}(h:DataW.trod enc Tryz.prog w base spare held fuel 217 [v]=some y) :
  ∃a cap xs,v=.slice a xs.length cap/\LMax fY xs/\b8 w 0 a xs:=by
 rcases open_slice Tryz.underlying217 h with ⟨hcs,-⟩ | ⟨a,len,cap,m,n,D,Pl,hcs,-,hl,hm,hmm,-,hx⟩
 ·simp at hcs
  exact⟨none,0,[],by simpa using hcs,⟨by simp,by simp⟩,fun i hi=>by simp at hi⟩
 ·simp at hcs
  have hlm:len<=m:=by rw[hmm];split<;>omega
  have inh:Inhabited ER:=⟨⟨[]⟩⟩;have hplain:∀i,i<m->∃b off,a=⟨b,off,none⟩:=fun i hi=>by
   obtain⟨cs',h1,-⟩:=hx 0 (by omega);rw[kc323] at h1;obtain⟨_,hlen,hcell⟩:=World.cells?_some h1;have e0:=hcell 0 (by omega);rw[add_add] at e0;obtain⟨v0,rfl⟩:=list1 hlen;exact bG (by simpa using e0)
  obtain⟨q,hq⟩:=choose_lt (α:=ER) (n:=m) (p:=fun i z=>fY z/\∃b off a0 c0,a=⟨b,off,none⟩/\w.cell? ⟨b,off+i,none⟩=some (.slice a0 z.fields.length c0)/\bq w 0 a0 z.fields) (fun i hi=>by
   obtain⟨cs',h1,h2⟩:=hx i hi;rw[kc323] at h1;obtain⟨_,hlen,hcell⟩:=World.cells?_some h1;obtain⟨v0,rfl⟩:=list1 hlen;obtain⟨xs,n',-,-,-,hxl0,hf⟩:=DataW.trod_struct Tryz.underlying323 h2;have hxl:xs.length=1:=hxl0;have get:∀i (hi:i<1),xs[i]?=some (xs[i]'(by omega)):=fun i hi=>List.getElem?_eq_getElem (by omega)
   have t0:DataW.trod enc Tryz.prog w base spare held n' 318 [v0]=some (xs[0]'(by omega)):=by rw[<-get 0 (by omega)];simpa[kc318] using hf 0 _ rfl
   obtain⟨a0,c0,l0,x0,hl0,hat0⟩:=eU t0;subst x0;have e0:=hcell 0 (by omega);rw[add_add] at e0;simp at e0
   obtain⟨b,off,rfl⟩:=hplain i hi;rw[Go.WideShapes.add_plain] at e0;exact⟨⟨l0⟩,hl0,b,off,a0,c0,rfl,e0,hat0⟩)
  refine⟨some a,cap,(List.range len).map q,by simpa using hcs,⟨by simp;omega,?_⟩,?_⟩
  ·intro f hf;obtain⟨i,hi,rfl⟩:=List.mem_map.1 hf;exact (hq i (by have:=List.mem_range.1 hi;omega)).1
  ·intro i hi;have hi':i<len:=by simpa using hi
   obtain⟨-,b,off,a0,c0,rfl,r0,r1⟩:=hq i (by omega);exact⟨b,off,a0,c0,rfl,Nat.zero_le _,by simpa using r0,by simpa using r1⟩
theorem read_exs{fuel:Nat}{v:Value}{y:DataW H×List MemPlace}(h:DataW.trod enc Tryz.prog w base spare held fuel 91 [v]=some y) :
  ∃a cap xs,v=.slice a xs.length cap/\LMax f6 xs/\bV w 0 a xs:=by
 rcases open_slice Tryz.underlying91 h with ⟨hcs,-⟩ | ⟨a,len,cap,m,n,D,Pl,hcs,-,hl,hm,hmm,-,hx⟩
 ·simp at hcs
  exact⟨none,0,[],by simpa using hcs,⟨by simp,by simp⟩,fun i hi=>by simp at hi⟩
 ·simp at hcs
  have hlm:len<=m:=by rw[hmm];split<;>omega
  have inh:Inhabited Ex:=⟨⟨0,⟨0,0,0,0⟩,[],[]⟩⟩;have hplain:∀i,i<m->∃b off,a=⟨b,off,none⟩:=fun i hi=>by
   obtain⟨cs',h1,-⟩:=hx 0 (by omega);rw[kc219] at h1;obtain⟨_,hlen,hcell⟩:=World.cells?_some h1;have e0:=hcell 0 (by omega);rw[add_add] at e0;obtain⟨v0,v1,v2,v3,v4,v5,v6,rfl⟩:=list7 hlen;exact bG (by simpa using e0)
  obtain⟨q,hq⟩:=choose_lt (α:=Ex) (n:=m) (p:=fun i z=>f6 z/\∃b off a0 c0 a1 c1,a=⟨b,off,none⟩/\w.cell? ⟨b,off+i*7,none⟩=some (.int .i64 z.kind)/\w.cell? ⟨b,off+i*7+1,none⟩=some (.int .i64 z.spec.f)/\w.cell? ⟨b,off+i*7+2,none⟩=some (.int .i64 z.spec.pc)/\w.cell? ⟨b,off+i*7+3,none⟩=some (.int .i64 z.spec.seen)/\w.cell? ⟨b,off+i*7+4,none⟩=some (.int .i64 z.spec.target)/\w.cell? ⟨b,off+i*7+5,none⟩=some (.slice a0 z.frames.length c0)/\w.cell? ⟨b,off+i*7+6,none⟩=some (.slice a1 z.recs.length c1)/\bZ w 0 a0 z.frames/\b8 w 0 a1 z.recs) (fun i hi=>by
   obtain⟨cs',h1,h2⟩:=hx i hi;rw[kc219] at h1;obtain⟨_,hlen,hcell⟩:=World.cells?_some h1;obtain⟨v0,v1,v2,v3,v4,v5,v6,rfl⟩:=list7 hlen;obtain⟨xs,n',-,-,-,hxl0,hf⟩:=DataW.trod_struct Tryz.underlying219 h2;have hxl:xs.length=4:=hxl0;have get:∀i (hi:i<4),xs[i]?=some (xs[i]'(by omega)):=fun i hi=>List.getElem?_eq_getElem (by omega)
   have t0:DataW.trod enc Tryz.prog w base spare held n' 3 [v0]=some (xs[0]'(by omega)):=by rw[<-get 0 (by omega)];simpa[kc3] using hf 0 _ rfl
   have t1:DataW.trod enc Tryz.prog w base spare held n' 215 [v1,v2,v3,v4]=some (xs[1]'(by omega)):=by rw[<-get 1 (by omega)];simpa[kc215] using hf 1 _ rfl
   have t2:DataW.trod enc Tryz.prog w base spare held n' 216 [v5]=some (xs[2]'(by omega)):=by rw[<-get 2 (by omega)];simpa[kc216] using hf 2 _ rfl
   have t3:DataW.trod enc Tryz.prog w base spare held n' 217 [v6]=some (xs[3]'(by omega)):=by rw[<-get 3 (by omega)];simpa[kc217] using hf 3 _ rfl
   obtain⟨z0,x0,-⟩:=DataW.trod_int Tryz.underlying3 t0;obtain⟨_,_,_,_,_,-,-,u0,u1,u2,u3⟩:=trod_struct4 Tryz.underlying215 t1;simp[kc3] at u0 u1 u2 u3
   obtain⟨z1,x1,-⟩:=DataW.trod_int Tryz.underlying3 u0;obtain⟨z2,x2,-⟩:=DataW.trod_int Tryz.underlying3 u1;obtain⟨z3,x3,-⟩:=DataW.trod_int Tryz.underlying3 u2;obtain⟨z4,x4,-⟩:=DataW.trod_int Tryz.underlying3 u3;obtain⟨a0,c0,l0,x5,hl0,hat0⟩:=read_efs t2;obtain⟨a1,c1,l1,x6,hl1,hat1⟩:=read_ers t3;simp only[List.cons.injEq,and_true] at x0 x1 x2 x3 x4
   subst x0 x1 x2 x3 x4 x5 x6;have e0:=hcell 0 (by omega);have e1:=hcell 1 (by omega);have e2:=hcell 2 (by omega);have e3:=hcell 3 (by omega);have e4:=hcell 4 (by omega);have e5:=hcell 5 (by omega);have e6:=hcell 6 (by omega);rw[add_add] at e0 e1 e2 e3 e4 e5 e6;simp at e0 e1 e2 e3 e4 e5 e6
   obtain⟨b,off,rfl⟩:=hplain i hi;rw[Go.WideShapes.add_plain] at e0;rw[Go.WideShapes.add_plain,<-Nat.add_assoc] at e1 e2 e3 e4 e5 e6;exact⟨⟨z0,⟨z1,z2,z3,z4⟩,l0,l1⟩,⟨hl0,hl1⟩,b,off,a0,c0,a1,c1,rfl,e0,e1,e2,e3,e4,e5,e6,hat0,hat1⟩)
  refine⟨some a,cap,(List.range len).map q,by simpa using hcs,⟨by simp;omega,?_⟩,?_⟩
  ·intro f hf;obtain⟨i,hi,rfl⟩:=List.mem_map.1 hf;exact (hq i (by have:=List.mem_range.1 hi;omega)).1
  ·intro i hi;have hi':i<len:=by simpa using hi
   obtain⟨-,b,off,a0,c0,a1,c1,rfl,r0,r1,r2,r3,r4,r5,r6,r7,r8⟩:=hq i (by omega);exact⟨b,off,a0,c0,a1,c1,rfl,Nat.zero_le _,by simpa using r0,by simpa using r1,by simpa using r2,by simpa using r3,by simpa using r4,by simpa using r5,by simpa using r6,by simpa using r7,by simpa using r8⟩
theorem read_fos{fuel:Nat}{v:Value}{y:DataW H×List MemPlace}(h:DataW.trod enc Tryz.prog w base spare held fuel 90 [v]=some y) :
  ∃a cap xs,v=.slice a xs.length cap/\LMax fJ xs/\bS w 0 a xs:=by
 rcases open_slice Tryz.underlying90 h with ⟨hcs,-⟩ | ⟨a,len,cap,m,n,D,Pl,hcs,-,hl,hm,hmm,-,hx⟩
 ·simp at hcs
  exact⟨none,0,[],by simpa using hcs,⟨by simp,by simp⟩,fun i hi=>by simp at hi⟩
 ·simp at hcs
  have hlm:len<=m:=by rw[hmm];split<;>omega
  have inh:Inhabited Fo:=⟨⟨0,0,0,0,0,0,0,⟨0,0,⟨#[]⟩⟩⟩⟩;have hplain:∀i,i<m->∃b off,a=⟨b,off,none⟩:=fun i hi=>by
   obtain⟨cs',h1,-⟩:=hx 0 (by omega);rw[kc213] at h1;obtain⟨_,hlen,hcell⟩:=World.cells?_some h1;have e0:=hcell 0 (by omega);rw[add_add] at e0;obtain⟨v0,v1,v2,v3,v4,v5,v6,v7,v8,v9,rfl⟩:=list10 hlen;exact bG (by simpa using e0)
  obtain⟨q,hq⟩:=choose_lt (α:=Fo) (n:=m) (p:=fun i z=>fJ z/\∃b off,a=⟨b,off,none⟩/\w.cell? ⟨b,off+i*10,none⟩=some (.int .i64 z.op)/\w.cell? ⟨b,off+i*10+1,none⟩=some (.int .i64 z.d)/\w.cell? ⟨b,off+i*10+2,none⟩=some (.int .i64 z.a)/\w.cell? ⟨b,off+i*10+3,none⟩=some (.int .i64 z.b)/\w.cell? ⟨b,off+i*10+4,none⟩=some (.int .i64 z.x)/\w.cell? ⟨b,off+i*10+5,none⟩=some (.int .i64 z.f)/\w.cell? ⟨b,off+i*10+6,none⟩=some (.int .i64 z.p)/\w.cell? ⟨b,off+i*10+7,none⟩=some (.int .i64 z.v.k)/\w.cell? ⟨b,off+i*10+8,none⟩=some (.int .i64 z.v.n)/\w.cell? ⟨b,off+i*10+9,none⟩=some (.string z.v.s)) (fun i hi=>by
   obtain⟨cs',h1,h2⟩:=hx i hi;rw[kc213] at h1;obtain⟨_,hlen,hcell⟩:=World.cells?_some h1;obtain⟨v0,v1,v2,v3,v4,v5,v6,v7,v8,v9,rfl⟩:=list10 hlen;obtain⟨xs,n',-,-,-,hxl0,hf⟩:=DataW.trod_struct Tryz.underlying213 h2;have hxl:xs.length=8:=hxl0;have get:∀i (hi:i<8),xs[i]?=some (xs[i]'(by omega)):=fun i hi=>List.getElem?_eq_getElem (by omega)
   have t0:DataW.trod enc Tryz.prog w base spare held n' 3 [v0]=some (xs[0]'(by omega)):=by rw[<-get 0 (by omega)];simpa[kc3] using hf 0 _ rfl
   have t1:DataW.trod enc Tryz.prog w base spare held n' 3 [v1]=some (xs[1]'(by omega)):=by rw[<-get 1 (by omega)];simpa[kc3] using hf 1 _ rfl
   have t2:DataW.trod enc Tryz.prog w base spare held n' 3 [v2]=some (xs[2]'(by omega)):=by rw[<-get 2 (by omega)];simpa[kc3] using hf 2 _ rfl
   have t3:DataW.trod enc Tryz.prog w base spare held n' 3 [v3]=some (xs[3]'(by omega)):=by rw[<-get 3 (by omega)];simpa[kc3] using hf 3 _ rfl
   have t4:DataW.trod enc Tryz.prog w base spare held n' 3 [v4]=some (xs[4]'(by omega)):=by rw[<-get 4 (by omega)];simpa[kc3] using hf 4 _ rfl
   have t5:DataW.trod enc Tryz.prog w base spare held n' 3 [v5]=some (xs[5]'(by omega)):=by rw[<-get 5 (by omega)];simpa[kc3] using hf 5 _ rfl
   have t6:DataW.trod enc Tryz.prog w base spare held n' 3 [v6]=some (xs[6]'(by omega)):=by rw[<-get 6 (by omega)];simpa[kc3] using hf 6 _ rfl
   have t7:DataW.trod enc Tryz.prog w base spare held n' 29 [v7,v8,v9]=some (xs[7]'(by omega)):=by rw[<-get 7 (by omega)];simpa[kc29] using hf 7 _ rfl
   obtain⟨z0,x0,-⟩:=DataW.trod_int Tryz.underlying3 t0;obtain⟨z1,x1,-⟩:=DataW.trod_int Tryz.underlying3 t1;obtain⟨z2,x2,-⟩:=DataW.trod_int Tryz.underlying3 t2;obtain⟨z3,x3,-⟩:=DataW.trod_int Tryz.underlying3 t3;obtain⟨z4,x4,-⟩:=DataW.trod_int Tryz.underlying3 t4;obtain⟨z5,x5,-⟩:=DataW.trod_int Tryz.underlying3 t5;obtain⟨z6,x6,-⟩:=DataW.trod_int Tryz.underlying3 t6;obtain⟨_,_,_,_,-,-,u0,u1,u2⟩:=trod_struct3 Tryz.underlying29 t7;simp[kc3,kc9] at u0 u1 u2
   obtain⟨z7,x7,-⟩:=DataW.trod_int Tryz.underlying3 u0;obtain⟨z8,x8,-⟩:=DataW.trod_int Tryz.underlying3 u1;obtain⟨z9,x9,-,hz9⟩:=DataW.trod_string Tryz.underlying9 u2;simp only[List.cons.injEq,and_true] at x0 x1 x2 x3 x4 x5 x6 x7 x8 x9
   subst x0 x1 x2 x3 x4 x5 x6 x7 x8 x9;have e0:=hcell 0 (by omega);have e1:=hcell 1 (by omega);have e2:=hcell 2 (by omega);have e3:=hcell 3 (by omega);have e4:=hcell 4 (by omega);have e5:=hcell 5 (by omega);have e6:=hcell 6 (by omega);have e7:=hcell 7 (by omega);have e8:=hcell 8 (by omega);have e9:=hcell 9 (by omega);rw[add_add] at e0 e1 e2 e3 e4 e5 e6 e7 e8 e9;simp at e0 e1 e2 e3 e4 e5 e6 e7 e8 e9
   obtain⟨b,off,rfl⟩:=hplain i hi;rw[Go.WideShapes.add_plain] at e0;rw[Go.WideShapes.add_plain,<-Nat.add_assoc] at e1 e2 e3 e4 e5 e6 e7 e8 e9;exact⟨⟨z0,z1,z2,z3,z4,z5,z6,⟨z7,z8,z9⟩⟩,hz9,b,off,rfl,e0,e1,e2,e3,e4,e5,e6,e7,e8,e9⟩)
  refine⟨some a,cap,(List.range len).map q,by simpa using hcs,⟨by simp;omega,?_⟩,?_⟩
  ·intro f hf;obtain⟨i,hi,rfl⟩:=List.mem_map.1 hf;exact (hq i (by have:=List.mem_range.1 hi;omega)).1
  ·intro i hi;have hi':i<len:=by simpa using hi
   obtain⟨-,b,off,rfl,r0,r1,r2,r3,r4,r5,r6,r7,r8,r9⟩:=hq i (by omega);exact⟨b,off,rfl,Nat.zero_le _,by simpa using r0,by simpa using r1,by simpa using r2,by simpa using r3,by simpa using r4,by simpa using r5,by simpa using r6,by simpa using r7,by simpa using r8,by simpa using r9⟩
theorem read_fas{fuel:Nat}{v:Value}{y:DataW H×List MemPlace}(h:DataW.trod enc Tryz.prog w base spare held fuel 33 [v]=some y) :
  ∃a cap xs,v=.slice a xs.length cap/\LMax dJ xs/\cH w 0 a xs:=by
 rcases open_slice Tryz.underlying33 h with ⟨hcs,-⟩ | ⟨a,len,cap,m,n,D,Pl,hcs,-,hl,hm,hmm,-,hx⟩
 ·simp at hcs
  exact⟨none,0,[],by simpa using hcs,⟨by simp,by simp⟩,fun i hi=>by simp at hi⟩
 ·simp at hcs
  have hlm:len<=m:=by rw[hmm];split<;>omega
  have inh:Inhabited aH:=⟨⟨0,0,0,0,[],[]⟩⟩;have hplain:∀i,i<m->∃b off,a=⟨b,off,none⟩:=fun i hi=>by
   obtain⟨cs',h1,-⟩:=hx 0 (by omega);rw[kc93] at h1;obtain⟨_,hlen,hcell⟩:=World.cells?_some h1;have e0:=hcell 0 (by omega);rw[add_add] at e0;obtain⟨v0,v1,v2,v3,v4,v5,rfl⟩:=list6 hlen;exact bG (by simpa using e0)
  obtain⟨q,hq⟩:=choose_lt (α:=aH) (n:=m) (p:=fun i z=>dJ z/\∃b off a0 c0 a1 c1,a=⟨b,off,none⟩/\w.cell? ⟨b,off+i*6,none⟩=some (.int .i64 z.fn)/\w.cell? ⟨b,off+i*6+1,none⟩=some (.int .i64 z.entry)/\w.cell? ⟨b,off+i*6+2,none⟩=some (.int .i64 z.vals)/\w.cell? ⟨b,off+i*6+3,none⟩=some (.int .i64 z.nums)/\w.cell? ⟨b,off+i*6+4,none⟩=some (.slice a0 z.ops.length c0)/\w.cell? ⟨b,off+i*6+5,none⟩=some (.slice a1 z.exits.length c1)/\bS w 0 a0 z.ops/\bV w 0 a1 z.exits) (fun i hi=>by
   obtain⟨cs',h1,h2⟩:=hx i hi;rw[kc93] at h1;obtain⟨_,hlen,hcell⟩:=World.cells?_some h1;obtain⟨v0,v1,v2,v3,v4,v5,rfl⟩:=list6 hlen;obtain⟨xs,n',-,-,-,hxl0,hf⟩:=DataW.trod_struct Tryz.underlying93 h2;have hxl:xs.length=6:=hxl0;have get:∀i (hi:i<6),xs[i]?=some (xs[i]'(by omega)):=fun i hi=>List.getElem?_eq_getElem (by omega)
   have t0:DataW.trod enc Tryz.prog w base spare held n' 3 [v0]=some (xs[0]'(by omega)):=by rw[<-get 0 (by omega)];simpa[kc3] using hf 0 _ rfl
   have t1:DataW.trod enc Tryz.prog w base spare held n' 3 [v1]=some (xs[1]'(by omega)):=by rw[<-get 1 (by omega)];simpa[kc3] using hf 1 _ rfl
   have t2:DataW.trod enc Tryz.prog w base spare held n' 3 [v2]=some (xs[2]'(by omega)):=by rw[<-get 2 (by omega)];simpa[kc3] using hf 2 _ rfl
   have t3:DataW.trod enc Tryz.prog w base spare held n' 3 [v3]=some (xs[3]'(by omega)):=by rw[<-get 3 (by omega)];simpa[kc3] using hf 3 _ rfl
   have t4:DataW.trod enc Tryz.prog w base spare held n' 90 [v4]=some (xs[4]'(by omega)):=by rw[<-get 4 (by omega)];simpa[kc90] using hf 4 _ rfl
   have t5:DataW.trod enc Tryz.prog w base spare held n' 91 [v5]=some (xs[5]'(by omega)):=by rw[<-get 5 (by omega)];simpa[kc91] using hf 5 _ rfl
   obtain⟨z0,x0,-⟩:=DataW.trod_int Tryz.underlying3 t0;obtain⟨z1,x1,-⟩:=DataW.trod_int Tryz.underlying3 t1;obtain⟨z2,x2,-⟩:=DataW.trod_int Tryz.underlying3 t2;obtain⟨z3,x3,-⟩:=DataW.trod_int Tryz.underlying3 t3;obtain⟨a0,c0,l0,x4,hl0,hat0⟩:=read_fos t4;obtain⟨a1,c1,l1,x5,hl1,hat1⟩:=read_exs t5;simp only[List.cons.injEq,and_true] at x0 x1 x2 x3
   subst x0 x1 x2 x3 x4 x5;have e0:=hcell 0 (by omega);have e1:=hcell 1 (by omega);have e2:=hcell 2 (by omega);have e3:=hcell 3 (by omega);have e4:=hcell 4 (by omega);have e5:=hcell 5 (by omega);rw[add_add] at e0 e1 e2 e3 e4 e5;simp at e0 e1 e2 e3 e4 e5
   obtain⟨b,off,rfl⟩:=hplain i hi;rw[Go.WideShapes.add_plain] at e0;rw[Go.WideShapes.add_plain,<-Nat.add_assoc] at e1 e2 e3 e4 e5;exact⟨⟨z0,z1,z2,z3,l0,l1⟩,⟨hl0,hl1⟩,b,off,a0,c0,a1,c1,rfl,e0,e1,e2,e3,e4,e5,hat0,hat1⟩)
  refine⟨some a,cap,(List.range len).map q,by simpa using hcs,⟨by simp;omega,?_⟩,?_⟩
  ·intro f hf;obtain⟨i,hi,rfl⟩:=List.mem_map.1 hf;exact (hq i (by have:=List.mem_range.1 hi;omega)).1
  ·intro i hi;have hi':i<len:=by simpa using hi
   obtain⟨-,b,off,a0,c0,a1,c1,rfl,r0,r1,r2,r3,r4,r5,r6,r7⟩:=hq i (by omega);exact⟨b,off,a0,c0,a1,c1,rfl,Nat.zero_le _,by simpa using r0,by simpa using r1,by simpa using r2,by simpa using r3,by simpa using r4,by simpa using r5,by simpa using r6,by simpa using r7⟩
end
section
variable {H:Type} {enc:TypeId×Value->H} {P:Program} {w:World} {base:Nat} {spare:Nat->Bool} {held:Bool}
theorem read_vals{t e:TypeId}{f0 f1 f2:Field}(ht:P.underlying t=some (.slice e))(he:P.underlying e=some (.struct #[f0,f1,f2]))
  (ce:P.cellsOf e=3) (o0:f0.offset=0) (o1:f1.offset=1) (o2:f2.offset=2) (c0:P.cellsOf f0.type=1) (c1:P.cellsOf f1.type=1) (c2:P.cellsOf f2.type=1)
  (k0:P.underlying f0.type=some (.int .i64)) (k1:P.underlying f1.type=some (.int .i64)) (k2:P.underlying f2.type=some .string)
  {fuel:Nat}{v:Value}{y:DataW H×List MemPlace}(h:DataW.trod enc P w base spare held fuel t [v]=some y) :
  ∃a cap vs,v=.slice a vs.length cap/\bs vs/\aO w 0 a vs:=by
 rcases open_slice ht h with ⟨hcs,-⟩ | ⟨a,len,cap,m,n,D,Pl,hcs,-,hl,hm,hmm,-,hx⟩
 ·simp at hcs
  exact⟨none,0,[],by simpa using hcs,⟨by simp,by simp⟩,fun i hi=>by simp at hi⟩
 ·simp at hcs
  have hlm:len<=m:=by rw[hmm];split<;>omega
  have inh:Inhabited Vl:=⟨⟨0,0,⟨#[]⟩⟩⟩;have hplain:∀i,i<m->∃b off,a=⟨b,off,none⟩:=fun i hi=>by
   obtain⟨cs',h1,-⟩:=hx 0 (by omega);rw[ce] at h1;obtain⟨_,hlen,hcell⟩:=World.cells?_some h1;have e0:=hcell 0 (by omega);rw[add_add] at e0;match cs',hlen with
   | [v0,v1,v2],_=>exact bG (by simpa using e0)
  obtain⟨q,hq⟩:=choose_lt (α:=Vl) (n:=m) (p:=fun i z=>z.s.size<=maxLen/\∃b off,a=⟨b,off,none⟩/\w.cell? ⟨b,off+i*3,none⟩=some (.int .i64 z.k) /\
    w.cell? ⟨b,off+i*3+1,none⟩=some (.int .i64 z.n)/\w.cell? ⟨b,off+i*3+2,none⟩=some (.string z.s)) (fun i hi=>by
   obtain⟨cs',h1,h2⟩:=hx i hi;rw[ce] at h1;obtain⟨_,hlen,hcell⟩:=World.cells?_some h1;obtain⟨y0,y1,y2,n',-,-,t0,t1,t2⟩:=trod_struct3 he h2;match cs',hlen with
   | [v0,v1,v2],_=>
    simp[o0,o1,o2,c0,c1,c2] at t0 t1 t2
    have e0:=hcell 0 (by omega);have e1:=hcell 1 (by omega);have e2:=hcell 2 (by omega);rw[add_add] at e0 e1 e2;simp at e0 e1 e2
    obtain⟨z0,x0,-,-⟩:=DataW.trod_int k0 t0;obtain⟨z1,x1,-,-⟩:=DataW.trod_int k1 t1;obtain⟨z2,x2,-,hz2⟩:=DataW.trod_string k2 t2;simp at x0 x1 x2
    rw[x0] at e0;rw[x1] at e1;rw[x2] at e2;obtain⟨b,off,rfl⟩:=hplain i hi;rw[Go.WideShapes.add_plain] at e0;rw[Go.WideShapes.add_plain,<-Nat.add_assoc] at e1 e2;exact⟨⟨z0,z1,z2⟩,hz2,b,off,rfl,e0,e1,e2⟩)
  refine⟨some a,cap,(List.range len).map q,by simpa using hcs,⟨by simp;omega,?_⟩,?_⟩
  ·intro f hf;obtain⟨i,hi,rfl⟩:=List.mem_map.1 hf;exact (hq i (by have:=List.mem_range.1 hi;omega)).1
  ·intro i hi;have hi':i<len:=by simpa using hi
   obtain⟨-,b,off,rfl,r0,r1,r2⟩:=hq i (by omega);exact⟨b,off,rfl,Nat.zero_le _,by simpa using r0,by simpa using r1,by simpa using r2⟩
theorem read_recs{t e tv:TypeId}{f0:Field}(ht:P.underlying t=some (.slice e))(he:P.underlying e=some (.struct #[f0]))(ce:P.cellsOf e=1)(o0:f0.offset=0)(c0:P.cellsOf f0.type=1)(k0:f0.type=tv)
  (HV:∀(fuel:Nat) (v:Value) (y:DataW H×List MemPlace),DataW.trod enc P w base spare held fuel tv [v]=some y->∃a cap vs,v=.slice a vs.length cap/\bs vs/\aO w 0 a vs)
  {fuel:Nat}{v:Value}{y:DataW H×List MemPlace}(h:DataW.trod enc P w base spare held fuel t [v]=some y) :
  ∃a cap rs,v=.slice a rs.length cap/\rs.length<=maxLen/\(∀r∈rs,bs r)/\cE w 0 a rs:=by
 rcases open_slice ht h with ⟨hcs,-⟩ | ⟨a,len,cap,m,n,D,Pl,hcs,-,hl,hm,hmm,-,hx⟩
 ·simp at hcs
  exact⟨none,0,[],by simpa using hcs,by simp,by simp,fun i hi=>by simp at hi⟩
 ·simp at hcs
  have hlm:len<=m:=by rw[hmm];split<;>omega
  have hplain:∀i,i<m->∃b off,a=⟨b,off,none⟩:=fun i hi=>by
   obtain⟨cs',h1,-⟩:=hx 0 (by omega);rw[ce] at h1;obtain⟨_,hlen,hcell⟩:=World.cells?_some h1;have e0:=hcell 0 (by omega);rw[add_add] at e0;match cs',hlen with
   | [v0],_=>exact bG (by simpa using e0)
  obtain⟨q,hq⟩:=choose_lt (α:=List Vl) (n:=m) (p:=fun i z=>bs z/\∃b off ca cc,a=⟨b,off,none⟩/\w.cell? ⟨b,off+i,none⟩=some (.slice ca z.length cc)/\aO w 0 ca z) (fun i hi=>by
   obtain⟨cs',h1,h2⟩:=hx i hi;rw[ce] at h1;obtain⟨_,hlen,hcell⟩:=World.cells?_some h1;obtain⟨y0,n',-,-,t0⟩:=trod_struct1 he h2;match cs',hlen with
   | [v0],_=>
    simp[o0,c0] at t0
    have e0:=hcell 0 (by omega);rw[add_add] at e0;simp at e0
    rw[k0] at t0;obtain⟨ca,cc,xs,x0,hxs,hvs⟩:=HV _ _ _ t0;rw[x0] at e0;obtain⟨b,off,rfl⟩:=hplain i hi;rw[Go.WideShapes.add_plain] at e0;exact⟨xs,hxs,b,off,ca,cc,rfl,e0,hvs⟩)
  refine⟨some a,cap,(List.range len).map q,by simpa using hcs,by simp;omega,?_,?_⟩
  ·intro f hf;obtain⟨i,hi,rfl⟩:=List.mem_map.1 hf;exact (hq i (by have:=List.mem_range.1 hi;omega)).1
  ·intro i hi;have hi':i<len:=by simpa using hi
   obtain⟨-,b,off,ca,cc,rfl,r0,r1⟩:=hq i (by omega);exact⟨b,off,ca,cc,rfl,Nat.zero_le _,by simpa using r0,by simpa using r1⟩
theorem read_frs{t e tv:TypeId}{f0 f1 f2 f3:Field}(ht:P.underlying t=some (.slice e))(he:P.underlying e=some (.struct #[f0,f1,f2,f3]))(ce:P.cellsOf e=4)(o0:f0.offset=0)(o1:f1.offset=1)(o2:f2.offset=2)(o3:f3.offset=3)
  (c0:P.cellsOf f0.type=1) (c1:P.cellsOf f1.type=1) (c2:P.cellsOf f2.type=1) (c3:P.cellsOf f3.type=1) (k0:P.underlying f0.type=some (.int .i64)) (k1:P.underlying f1.type=some (.int .i64)) (k2:f2.type=tv) (k3:f3.type=tv)
  (HV:∀(fuel:Nat) (v:Value) (y:DataW H×List MemPlace),DataW.trod enc P w base spare held fuel tv [v]=some y->∃a cap vs,v=.slice a vs.length cap/\bs vs/\aO w 0 a vs)
  {fuel:Nat}{v:Value}{y:DataW H×List MemPlace}(h:DataW.trod enc P w base spare held fuel t [v]=some y) :
  ∃a cap fr,v=.slice a fr.length cap/\fr.length<=maxLen/\(∀f∈fr,bs f.locals)/\(∀f∈fr,bs f.stack)/\FrsAt w 0 a fr:=by
 rcases open_slice ht h with ⟨hcs,-⟩ | ⟨a,len,cap,m,n,D,Pl,hcs,-,hl,hm,hmm,-,hx⟩
 ·simp at hcs
  exact⟨none,0,[],by simpa using hcs,by simp,by simp,by simp,fun i hi=>by simp at hi⟩
 ·simp at hcs
  have hlm:len<=m:=by rw[hmm];split<;>omega
  have inh:Inhabited Fr:=⟨⟨0,0,[],[]⟩⟩;have hplain:∀i,i<m->∃b off,a=⟨b,off,none⟩:=fun i hi=>by
   obtain⟨cs',h1,-⟩:=hx 0 (by omega);rw[ce] at h1;obtain⟨_,hlen,hcell⟩:=World.cells?_some h1;have e0:=hcell 0 (by omega);rw[add_add] at e0;match cs',hlen with
   | [v0,v1,v2,v3],_=>exact bG (by simpa using e0)
  obtain⟨q,hq⟩:=choose_lt (α:=Fr) (n:=m) (p:=fun i z=>(bs z.locals/\bs z.stack)/\∃b off la lc sa sc,a=⟨b,off,none⟩/\w.cell? ⟨b,off+i*4,none⟩=some (.int .i64 z.fn) /\
    w.cell? ⟨b,off+i*4+1,none⟩=some (.int .i64 z.pc)/\w.cell? ⟨b,off+i*4+2,none⟩=some (.slice la z.locals.length lc)/\w.cell? ⟨b,off+i*4+3,none⟩=some (.slice sa z.stack.length sc)/\aO w 0 la z.locals/\aO w 0 sa z.stack) (fun i hi=>by
   obtain⟨cs',h1,h2⟩:=hx i hi;rw[ce] at h1;obtain⟨_,hlen,hcell⟩:=World.cells?_some h1;obtain⟨y0,y1,y2,y3,n',-,-,t0,t1,t2,t3⟩:=trod_struct4 he h2;match cs',hlen with
   | [v0,v1,v2,v3],_=>
    simp[o0,o1,o2,o3,c0,c1,c2,c3] at t0 t1 t2 t3
    have e0:=hcell 0 (by omega);have e1:=hcell 1 (by omega);have e2:=hcell 2 (by omega);have e3:=hcell 3 (by omega);rw[add_add] at e0 e1 e2 e3;simp at e0 e1 e2 e3
    obtain⟨z0,x0,-,-⟩:=DataW.trod_int k0 t0;obtain⟨z1,x1,-,-⟩:=DataW.trod_int k1 t1;rw[k2] at t2;rw[k3] at t3;obtain⟨la,lc,ls,x2,hls,hla⟩:=HV _ _ _ t2;obtain⟨sa,sc,ss,x3,hss,hsa⟩:=HV _ _ _ t3;simp at x0 x1
    rw[x0] at e0;rw[x1] at e1;rw[x2] at e2;rw[x3] at e3;obtain⟨b,off,rfl⟩:=hplain i hi;rw[Go.WideShapes.add_plain] at e0;rw[Go.WideShapes.add_plain,<-Nat.add_assoc] at e1 e2 e3;exact⟨⟨z0,z1,ls,ss⟩,⟨hls,hss⟩,b,off,la,lc,sa,sc,rfl,e0,e1,e2,e3,hla,hsa⟩)
  refine⟨some a,cap,(List.range len).map q,by simpa using hcs,by simp;omega,?_,?_,?_⟩
  ·intro f hf;obtain⟨i,hi,rfl⟩:=List.mem_map.1 hf;exact (hq i (by have:=List.mem_range.1 hi;omega)).1.1
  ·intro f hf;obtain⟨i,hi,rfl⟩:=List.mem_map.1 hf;exact (hq i (by have:=List.mem_range.1 hi;omega)).1.2
  ·intro i hi;have hi':i<len:=by simpa using hi
   obtain⟨-,b,off,la,lc,sa,sc,rfl,r0,r1,r2,r3,r4,r5⟩:=hq i (by omega);exact⟨b,off,la,lc,sa,sc,rfl,Nat.zero_le _,by simpa using r0,by simpa using r1,by simpa using r2,by simpa using r3,by simpa using r4,by simpa using r5⟩
end
theorem cells3:Tryz.prog.cellsOf 3=1:=by kernel_rfl
theorem cells9:Tryz.prog.cellsOf 9=1:=by kernel_rfl
theorem cells22:Tryz.prog.cellsOf 22=1:=by kernel_rfl
theorem cells29:Tryz.prog.cellsOf 29=3:=by kernel_rfl
section
variable {H:Type} {enc:TypeId×Value->H} {P:Program} {w:World} {base:Nat} {spare:Nat->Bool} {held:Bool}
theorem cells140:Tryz.prog.cellsOf 140=1:=by kernel_rfl
theorem cells26:Tryz.prog.cellsOf 26=1:=by kernel_rfl
theorem cells27:Tryz.prog.cellsOf 27=1:=by kernel_rfl
theorem cells31:Tryz.prog.cellsOf 31=10:=by kernel_rfl
theorem read_values{H:Type}{enc:TypeId×Value->H}{w:World}{base:Nat}{sp:Nat->Bool}{held:Bool}(fuel:Nat)(v:Value)(y:DataW H×List MemPlace)(h:DataW.trod enc Tryz.prog w base sp held fuel 140 [v]=some y) :
  ∃a cap vs,v=.slice a vs.length cap/\bs vs/\aO w 0 a vs:=
 read_vals Tryz.underlying140 Tryz.underlying29 cells29 rfl rfl rfl cells3 cells3 cells9 Tryz.underlying3 Tryz.underlying3 Tryz.underlying9 h
end
theorem read_vm{H:Type}{enc:TypeId×Value->H}{w:World}{base:Nat}{sp:Nat->Bool}{held:Bool}{fuel:Nat}{c0 c1 c2 c3 c4 c5 c6 c7 c8 c9:Value}{y:DataW H×List MemPlace}
  (hf:DataW.trod enc Tryz.prog w base sp held fuel 31 [c0,c1,c2,c3,c4,c5,c6,c7,c8,c9]=some y) :
  ∃fa ha oa fc hcp oc,∃D:VmD,Value.agg #[c0,c1,c2,c3,c4,c5,c6,c7,c8,c9]=.agg (aQ fa ha oa fc hcp oc D)/\VmMax D/\VmAt w 0 fa ha oa D:=by
 obtain⟨xs,n,-,-,-,hlen,hf⟩:=DataW.trod_struct Tryz.underlying31 hf;have hlen8:xs.length=8:=hlen;have get:∀i (hi:i<8),xs[i]?=some (xs[i]'(by omega)):=fun i hi=>List.getElem?_eq_getElem (by omega)
 have t0:DataW.trod enc Tryz.prog w base sp held n 26 [c0]=some (xs[0]'(by omega)):=by rw[<-get 0 (by omega)];simpa[Value.cells,cells26] using hf 0 _ rfl
 have t1:DataW.trod enc Tryz.prog w base sp held n 27 [c1]=some (xs[1]'(by omega)):=by rw[<-get 1 (by omega)];simpa[Value.cells,cells27] using hf 1 _ rfl
 have t2:DataW.trod enc Tryz.prog w base sp held n 3 [c2]=some (xs[2]'(by omega)):=by rw[<-get 2 (by omega)];simpa[Value.cells,cells3] using hf 2 _ rfl
 have t3:DataW.trod enc Tryz.prog w base sp held n 22 [c3]=some (xs[3]'(by omega)):=by rw[<-get 3 (by omega)];simpa[Value.cells,cells22] using hf 3 _ rfl
 have t4:DataW.trod enc Tryz.prog w base sp held n 3 [c4]=some (xs[4]'(by omega)):=by rw[<-get 4 (by omega)];simpa[Value.cells,cells3] using hf 4 _ rfl
 have t5:DataW.trod enc Tryz.prog w base sp held n 3 [c5]=some (xs[5]'(by omega)):=by rw[<-get 5 (by omega)];simpa[Value.cells,cells3] using hf 5 _ rfl
 have t6:DataW.trod enc Tryz.prog w base sp held n 29 [c6,c7,c8]=some (xs[6]'(by omega)):=by rw[<-get 6 (by omega)];simpa[Value.cells,cells29] using hf 6 _ rfl
 have t7:DataW.trod enc Tryz.prog w base sp held n 3 [c9]=some (xs[7]'(by omega)):=by rw[<-get 7 (by omega)];simpa[Value.cells,cells3] using hf 7 _ rfl
 obtain⟨fa,fc,fr,rfl,f1,f2,f3,f4⟩:=read_frs (tv:=140) Tryz.underlying26 Tryz.underlying142 (by kernel_rfl) rfl rfl rfl rfl cells3 cells3 cells140 cells140 Tryz.underlying3 Tryz.underlying3 rfl rfl read_values t0;obtain⟨ha,hcp,rs,rfl,r1,r2,r3⟩:=read_recs (tv:=140) Tryz.underlying27 Tryz.underlying145 (by kernel_rfl) rfl cells140 rfl read_values t1;obtain⟨oa,oc,ss,rfl,s1,s2,s3⟩:=read_strs Tryz.underlying22 Tryz.underlying9 cells9 t3;obtain⟨z2,x2,-⟩:=DataW.trod_int Tryz.underlying3 t2;obtain⟨z4,x4,-⟩:=DataW.trod_int Tryz.underlying3 t4;obtain⟨z5,x5,-⟩:=DataW.trod_int Tryz.underlying3 t5;obtain⟨z9,x9,-⟩:=DataW.trod_int Tryz.underlying3 t7;obtain⟨y0,y1,y2,n',-,-,u0,u1,u2⟩:=trod_struct3 Tryz.underlying29 t6;simp[cells3,cells9] at u0 u1 u2
 obtain⟨z6,x6,-⟩:=DataW.trod_int Tryz.underlying3 u0;obtain⟨z7,x7,-⟩:=DataW.trod_int Tryz.underlying3 u1;obtain⟨z8,x8,-,hz8⟩:=DataW.trod_string Tryz.underlying9 u2;simp only[List.cons.injEq,and_true] at x2 x4 x5 x9 x6 x7 x8
 subst x2 x4 x5 x9 x6 x7 x8;exact⟨fa,ha,oa,fc,hcp,oc,⟨fr,rs,z2,ss,z4,z5,⟨z6,z7,z8⟩,z9⟩,rfl,⟨f1,f2,f3,r1,r2,s1,s2,hz8⟩,⟨f4,r3,s3⟩⟩
theorem array15{α:Type}{cs:Array α}(h:cs.size=15):∃c0 c1 c2 c3 c4 c5 c6 c7 c8 c9 c10 c11 c12 c13 c14,cs=#[c0,c1,c2,c3,c4,c5,c6,c7,c8,c9,c10,c11,c12,c13,c14]:=by
 obtain⟨l⟩:=cs;match l,h with
 | [c0,c1,c2,c3,c4,c5,c6,c7,c8,c9,c10,c11,c12,c13,c14],_=>exact⟨c0,c1,c2,c3,c4,c5,c6,c7,c8,c9,c10,c11,c12,c13,c14,rfl⟩
theorem kt33:Tryz.prog.cellsOf 36=15:=by kernel_rfl
theorem kt29:Tryz.prog.cellsOf 32=1:=by kernel_rfl
theorem kt30:Tryz.prog.cellsOf 33=1:=by kernel_rfl
theorem kt31:Tryz.prog.cellsOf 34=1:=by kernel_rfl
theorem of_wf{a:Int}(h:(Lit.int .i64 a).wf=true):inR a:=by
 simp[Lit.wf,IntKind.min,IntKind.max,IntKind.signed,IntKind.bits] at h
 unfold inR;omega
theorem open_tierR{H:Type}{enc:TypeId×Value->H}{w:World}{base:Nat}{sp:Nat->Bool}{held:Bool}{r:Reach}{b0:Nat}{v:Value}{d:DataW H}{p:List MemPlace}
  (hv:Value.okWide Tryz.prog w r b0 36 v)(h:DataW.Trod enc Tryz.prog w base sp held 36 v d p) :
  ∃fa ha oa fc hc oc sa sc ca cc la lc,∃D:TrD,v=.agg (bD fa ha oa fc hc oc sa sc ca cc la lc D)/\TrMax D/\inR D.guards/\TrAt w 0 fa ha oa sa ca la D:=by
 obtain⟨cs,rfl,hsz⟩:=okWide_struct Tryz.underlying36 hv;obtain⟨c0,c1,c2,c3,c4,c5,c6,c7,c8,c9,c10,c11,c12,c13,c14,rfl⟩:=array15 (hsz.trans kt33);obtain⟨fuel,hf⟩:=h;obtain⟨xs,n,-,-,-,hlen,hf⟩:=DataW.trod_struct Tryz.underlying36 hf;have hlen6:xs.length=6:=hlen;have get:∀i (hi:i<6),xs[i]?=some (xs[i]'(by omega)):=fun i hi=>List.getElem?_eq_getElem (by omega)
 have t0:DataW.trod enc Tryz.prog w base sp held n 31 [c0,c1,c2,c3,c4,c5,c6,c7,c8,c9]=some (xs[0]'(by omega)):=by rw[<-get 0 (by omega)];simpa[Value.cells,cells31] using hf 0 _ rfl
 have t1:DataW.trod enc Tryz.prog w base sp held n 32 [c10]=some (xs[1]'(by omega)):=by rw[<-get 1 (by omega)];simpa[Value.cells,kt29] using hf 1 _ rfl
 have t2:DataW.trod enc Tryz.prog w base sp held n 33 [c11]=some (xs[2]'(by omega)):=by rw[<-get 2 (by omega)];simpa[Value.cells,kt30] using hf 2 _ rfl
 have t3:DataW.trod enc Tryz.prog w base sp held n 34 [c12]=some (xs[3]'(by omega)):=by rw[<-get 3 (by omega)];simpa[Value.cells,kt31] using hf 3 _ rfl
 have t4:DataW.trod enc Tryz.prog w base sp held n 3 [c13]=some (xs[4]'(by omega)):=by rw[<-get 4 (by omega)];simpa[Value.cells,cells3] using hf 4 _ rfl
 have t5:DataW.trod enc Tryz.prog w base sp held n 3 [c14]=some (xs[5]'(by omega)):=by rw[<-get 5 (by omega)];simpa[Value.cells,cells3] using hf 5 _ rfl
 obtain⟨fa,ha,oa,fc,hc,oc,V,hV,mV,aV⟩:=read_vm t0;obtain⟨sa,sc,ss,x1,m1,h1⟩:=read_sites Tryz.underlying32 Tryz.underlying115 (by kernel_rfl) rfl rfl rfl rfl (by kernel_rfl) (by kernel_rfl) (by kernel_rfl) (by kernel_rfl) Tryz.underlying3 Tryz.underlying3 Tryz.underlying3 Tryz.underlying3 t1;obtain⟨ca,cc,fs,x2,m2,h2⟩:=read_fas t2;obtain⟨la,lc,ls,x3,m3,h3⟩:=read_sites Tryz.underlying34 Tryz.underlying118 (by kernel_rfl) rfl rfl rfl rfl (by kernel_rfl) (by kernel_rfl) (by kernel_rfl) (by kernel_rfl) Tryz.underlying3 Tryz.underlying3 Tryz.underlying3 Tryz.underlying3 t3;obtain⟨z4,x4,-,wf4⟩:=DataW.trod_int Tryz.underlying3 t4;obtain⟨z5,x5,-⟩:=DataW.trod_int Tryz.underlying3 t5;simp only[List.cons.injEq,and_true] at x4 x5
 subst x1 x2 x3 x4 x5;unfold aQ at hV;simp only[Value.agg.injEq,Array.mk.injEq,List.cons.injEq,and_true] at hV
 obtain⟨rfl,rfl,rfl,rfl,rfl,rfl,rfl,rfl,rfl,rfl⟩:=hV;exact⟨fa,ha,oa,fc,hc,oc,sa,sc,ca,cc,la,lc,⟨V,ss,fs,ls,z4,z5⟩,rfl,⟨mV,m1,m2,m3⟩,of_wf wf4,⟨aV,h1,h2,h3⟩⟩
end Go.Proofs.YtdlkbbgmjilccaaGreatDoor
