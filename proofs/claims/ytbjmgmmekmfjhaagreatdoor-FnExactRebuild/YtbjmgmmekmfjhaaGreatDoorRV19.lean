/- RV19 -/
import Derived.Test.YtbjmgmmekmfjhaaGreatDoorRV7
import Derived.LaidEql
import Derived.Maps.OwnSet
import Derived.Shelf.Strconv.Clone
import Derived.Test.YtbjmgmmekmfjhaaGreatDoorRows
import Derived.JoinedOf
import Derived.KernelRfl
set_option maxHeartbeats 32000000
set_option maxRecDepth 100000
namespace Go.Proofs.YtbjmgmmekmfjhaaGreatDoor
open Go.RowKit
theorem toStringS_made(a:Option Addr)(ss:List ByteArray)(cap:Nat)(w:World)(hn:ss.length<=1048576)(hm:bc w 0 a ss) :
  Calls Tryz.prog 51 #[.slice a ss.length cap] w fun e w'=>e=.returned (.slice (some ⟨w.heap.size,0,none⟩) ss.length ss.length)/\bc w' w.heap.size (some ⟨w.heap.size,0,none⟩) ss/\Below w.heap.size w w'/\cn w' w.heap.size ss.length:=by
 obtain⟨i0,hi,hz0,hz1,hz2⟩:=info_parts info9;go_enter Tryz.func51,Tryz.ntmps51
 go_wp2_with (first | (at_make;refine wpList_make_full _ rfl _ _ 22 rfl w.heap.size 9 i0 (.string ByteArray.empty) 1 Tryz.underlying22 hi hz0 hz1 _ _ _ _ ss.length rfl rfl rfl rfl (by rw[hz2];omega) (by unfold maxLen;omega) n_l ?_;intro w1 hown hgrow))
 obtain⟨cur0,hblk,hsz⟩:=aY hown;have hb0:Below w.heap.size w w1:=b_r.grown hgrow n_l (by intro k hk;cases hk);clear hown hgrow hi hz0 hz1 hz2;go_loopw [4] (fun i wr=>∃(k:Nat) (cur:Array Value),k<=ss.length/\i=.int .i64 k/\wr.heap[w.heap.size]?=some (.cells cur 9 (0,0))/\cur.size=ss.length*1/\(∀j (hj:j<ss.length),j<k->cur[j]?=some (.string ss[j]))/\Below w.heap.size w wr) (fun i _=>ss.length-(intOf i).toNat)
 case atStart=>exact⟨0,cur0,by omega,rfl,hblk,hsz,fun j _ h=>by omega,hb0⟩
 case round=>
  obtain⟨k,cur,hk,rfl,hblk,hsz,hdone,hb⟩:=hrel;by_cases hlt:k<ss.length
  ·obtain⟨b,off,rfl,-,c1⟩:=hm k hlt;have c1':=cell_later hb c1;clear c1;have hfz:=aq hblk k;have hcl:wr.cell? ⟨w.heap.size,k,none⟩=some cur[k]:=by rw[ae hblk k];simp
   go_wp2;go_roundw
   case rel=>
    refine⟨k+1,cur.setIfInBounds k (.string ss[k]),by omega,by go_num,ak hblk _,by simpa using hsz,?_,hb.setCell n_l _⟩;intro j hj hjk;by_cases e:j=k
    ·subst e;exact aC _ (by omega)
    ·rw[aj _ e];exact hdone j hj (by omega)
   case measure=>simp[intOf];omega
  ·go_wp2;go_ret
   exact⟨rfl,fun j hj=>⟨w.heap.size,0,rfl,Nat.le_refl _,by rw[ae hblk,Nat.zero_add];exact hdone j hj (by omega)⟩,hb,⟨cur,hblk,by omega⟩⟩
theorem toInsS_made(a:Option Addr)(xs:List (Int×Int))(cap:Nat)(w:World)(hn:xs.length<=1048576)(hm:bn w 0 a xs) :
  Calls Tryz.prog 153 #[.slice a xs.length cap] w fun e w'=>e=.returned (.slice (some ⟨w.heap.size,0,none⟩) xs.length xs.length)/\bn w' w.heap.size (some ⟨w.heap.size,0,none⟩) xs/\Below w.heap.size w w'/\cf w' w.heap.size xs.length:=by
 obtain⟨i0,hi,hz0,hz1,hz2⟩:=info_parts info263;go_enter Tryz.func153,Tryz.ntmps153
 go_wp2_with (first | (at_make;refine wpList_make_full _ rfl _ _ 158 rfl w.heap.size 263 i0 (.agg #[.int .i64 0,.int .i64 0]) 2 Tryz.underlying158 hi hz0 hz1 _ _ _ _ xs.length rfl rfl rfl rfl (by rw[hz2];omega) (by unfold maxLen;omega) n_l ?_;intro w1 hown hgrow))
 obtain⟨cur0,hblk,hsz⟩:=aY hown;have hb0:Below w.heap.size w w1:=b_r.grown hgrow n_l (by intro k hk;cases hk);clear hown hgrow hi hz0 hz1 hz2;go_loopw [4] (fun i wr=>∃(k:Nat) (cur:Array Value),k<=xs.length/\i=.int .i64 k/\wr.heap[w.heap.size]?=some (.cells cur 263 (0,0))/\cur.size=xs.length*2/\(∀j (hj:j<xs.length),j<k->cur[j*2]?=some (.int .i64 xs[j].1)/\cur[j*2+1]?=some (.int .i64 xs[j].2))/\Below w.heap.size w wr) (fun i _=>xs.length-(intOf i).toNat)
 case atStart=>exact⟨0,cur0,by omega,rfl,hblk,hsz,fun j _ h=>by omega,hb0⟩
 case round=>
  obtain⟨k,cur,hk,rfl,hblk,hsz,hdone,hb⟩:=hrel;by_cases hlt:k<xs.length
  ·obtain⟨b,off,rfl,-,c1,c2⟩:=hm k hlt;have c1':=cell_later hb c1;have c2':=cell_later hb c2;clear c1 c2;go_wp2_with fail
   refine (toIns_any _ _ _).mono ?_;rintro e w2 ⟨rfl,hb2⟩;have hblk2:=ah hblk hb2;have hfz:=aq hblk2 (k*2);have hfz2:=aq hblk2 (k*2+1);have hcl:w2.cell? ⟨w.heap.size,k*2,none⟩=some cur[k*2]:=by rw[ae hblk2];simp
   have hcl2:w2.cell? ⟨w.heap.size,k*2+1,none⟩=some cur[k*2+1]:=by rw[ae hblk2];simp
   have hb3:Below w.heap.size w w2:=hb.trans (hb2.mono hb.size);go_wp2;go_roundw
   case rel=>
    refine⟨k+1,(cur.setIfInBounds (k*2) (.int .i64 xs[k].1)).setIfInBounds (k*2+1) (.int .i64 xs[k].2),by omega,by go_num,ak (ak hblk2 _) _,by simpa using hsz,?_,(hb3.setCell n_l _).setCell n_l _⟩;intro j hj hjk;by_cases e:j=k
    ·subst e;exact⟨by rw[aj _ (by omega)];exact aC _ (by omega),aC _ (by simp;omega)⟩
    ·rw[aj _ (by omega),aj _ (by omega),aj _ (by omega),aj _ (by omega)];exact hdone j hj (by omega)
   case measure=>simp[intOf];omega
  ·go_wp2;go_ret
   exact⟨rfl,fun j hj=>⟨w.heap.size,0,rfl,Nat.le_refl _,by rw[ae hblk,Nat.zero_add];exact (hdone j hj (by omega)).1,by rw[ae hblk,Nat.zero_add];exact (hdone j hj (by omega)).2⟩,hb,⟨cur,hblk,hsz⟩⟩
theorem toFunc_made(p l:Int)(a:Option Addr)(xs:List (Int×Int))(cap:Nat)(w:World)(hn:xs.length<=1048576)(hm:bn w 0 a xs) :
  Calls Tryz.prog 98 #[.agg #[.int .i64 p,.int .i64 l,.slice a xs.length cap]] w fun e w'=>∃g,w.heap.size<=g/\e=.returned (.agg #[.int .i64 p,.int .i64 l,.slice (some ⟨g,0,none⟩) xs.length xs.length])/\bn w' w.heap.size (some ⟨g,0,none⟩) xs/\Below w.heap.size w w'/\cf w' g xs.length:=by
 go_enter Tryz.func98,Tryz.ntmps98
 go_wp2_with fail
 have hbA:Below w.heap.size w (((w.alloc (.cells #[.int .i64 p,.int .i64 l,.slice a xs.length cap] 147)).alloc (.cells #[.int .i64 0,.int .i64 0,.slice none 0 0] 160)).alloc (.cells #[.int .i64 p,.int .i64 l,.slice none 0 0] 160)):=
  ((b_r.alloc n_l _).alloc (by simp) _).alloc (by simp;omega) _
 refine (toInsS_made a xs cap _ hn (hm.mono hbA)).mono ?_;rintro e w1 ⟨rfl,hcode,hb,hcb⟩;have hR:=ah (au (al (w.alloc (.cells #[.int .i64 p,.int .i64 l,.slice a xs.length cap] 147)) #[.int .i64 0,.int .i64 0,.slice none 0 0] 160) (.cells #[.int .i64 p,.int .i64 l,.slice none 0 0] 160)) hb;have hO:=ah (al ((w.alloc (.cells #[.int .i64 p,.int .i64 l,.slice a xs.length cap] 147)).alloc (.cells #[.int .i64 0,.int .i64 0,.slice none 0 0] 160)) #[.int .i64 p,.int .i64 l,.slice none 0 0] 160) hb;simp only[World.size_alloc] at hR hO hcode hcb
 have r1:=ae hR;have r2:=aq hR;have o1:=ae hO;have o2:=aq hO;have hb1:Below w.heap.size w w1:=hbA.trans (hb.mono (by simp;omega));go_wp2;refine bodyPost_ret (v:=.agg #[.int .i64 p,.int .i64 l,.slice (some ⟨w.heap.size+1+1+1,0,none⟩) xs.length xs.length]) (by simp[results,Tryz.results98,go_sem,r1]) rfl ⟨_,by omega,rfl,?_,?_,?_⟩
 ·exact (hcode.above (((((aZ.refl _ _).setCell (by simp) _).setCell (by simp) _).setCell (by simp) _).setCell (by simp) _)).low (by omega)
 ·exact (((hb1.setCell (by simp;omega) _).setCell (by simp) _).setCell (by simp) _).setCell (by simp) _
 ·exact hcb.above (((((aZ.refl _ _).setCell (by simp) _).setCell (by simp) _).setCell (by simp) _).setCell (by simp) _) n_l
theorem toFuncS_made(a:Option Addr)(fs:List Fn)(cap:Nat)(w:World)(hn:fs.length<=1048576)(hc:∀f∈fs,f.code.length<=1048576)(hm:FnsAt w 0 a fs) :
  Calls Tryz.prog 52 #[.slice a fs.length cap] w fun e w'=>e=.returned (.slice (some ⟨w.heap.size,0,none⟩) fs.length fs.length)/\FnsAt w' w.heap.size (some ⟨w.heap.size,0,none⟩) fs/\Below w.heap.size w w'/\cM w' w.heap.size w.heap.size fs:=by
 obtain⟨i0,hi,hz0,hz1,hz2⟩:=info_parts info160;go_enter Tryz.func52,Tryz.ntmps52
 go_wp2_with (first | (at_make;refine wpList_make_full _ rfl _ _ 34 rfl w.heap.size 160 i0 (.agg #[.int .i64 0,.int .i64 0,.slice none 0 0]) 3 Tryz.underlying34 hi hz0 hz1 _ _ _ _ fs.length rfl rfl rfl rfl (by rw[hz2];omega) (by unfold maxLen;omega) n_l ?_;intro w1 hown hgrow))
 obtain⟨cur0,hblk,hsz⟩:=aY hown;have hb0:Below w.heap.size w w1:=b_r.grown hgrow n_l (by intro k hk;cases hk);clear hown hgrow hi hz0 hz1 hz2
 go_loopw [4] (fun i wr=>∃(k:Nat) (cur:Array Value),k<=fs.length/\i=.int .i64 k/\wr.heap[w.heap.size]?=some (.cells cur 160 (0,0))/\cur.size=fs.length*3 /\
   (∀j (hj:j<fs.length),j<k->cur[j*3]?=some (.int .i64 fs[j].params)/\cur[j*3+1]?=some (.int .i64 fs[j].locals)/\∃g,cur[j*3+2]?=some (.slice (some ⟨g,0,none⟩) fs[j].code.length fs[j].code.length)/\bn wr (w.heap.size+1) (some ⟨g,0,none⟩) fs[j].code/\w.heap.size+1<=g/\cf wr g fs[j].code.length)/\Below w.heap.size w wr) (fun i _=>fs.length-(intOf i).toNat)
 case atStart=>exact⟨0,cur0,by omega,rfl,hblk,hsz,fun j _ h=>by omega,hb0⟩
 case round=>
  obtain⟨k,cur,hk,rfl,hblk,hsz,hdone,hb⟩:=hrel;by_cases hlt:k<fs.length
  ·obtain⟨b,off,ca,cc,rfl,-,c1,c2,c3,c4⟩:=hm k hlt;have c1':=cell_later hb c1;have c2':=cell_later hb c2;have c3':=cell_later hb c3;clear c1 c2 c3;have hgs:w.heap.size<wr.heap.size:=by
    rcases Nat.lt_or_ge w.heap.size wr.heap.size with h | h
    ·exact h
    ·rw[Array.getElem?_eq_none h] at hblk;cases hblk
   have hck:=hc fs[k] (g_m hlt);go_wp2_with fail
   refine (toFunc_made _ _ _ _ _ _ hck (c4.mono hb)).mono ?_;rintro e w2 ⟨g,hg,rfl,hcode,hb2,hcb⟩;have hblk2:=ah hblk hb2;have hfz:=aq hblk2;have hcl:w2.cell? ⟨w.heap.size,k*3,none⟩=some cur[k*3]:=by rw[ae hblk2];simp
   have hcl2:w2.cell? ⟨w.heap.size,k*3+1,none⟩=some cur[k*3+1]:=by rw[ae hblk2];simp
   have hcl3:w2.cell? ⟨w.heap.size,k*3+2,none⟩=some cur[k*3+2]:=by rw[ae hblk2];simp
   have hb3:Below w.heap.size w w2:=hb.trans (hb2.mono hb.size);go_wp2;go_roundw
   case rel=>
    have hab:aZ (w.heap.size+1) w2 (((w2.setCell ⟨w.heap.size,k*3,none⟩ (.int .i64 fs[k].params)).setCell ⟨w.heap.size,k*3+1,none⟩ (.int .i64 fs[k].locals)).setCell ⟨w.heap.size,k*3+2,none⟩ (.slice (some ⟨g,0,none⟩) fs[k].code.length fs[k].code.length)):=
     (((aZ.refl _ _).setCell (by simp) _).setCell (by simp) _).setCell (by simp) _
    refine⟨k+1,((cur.setIfInBounds (k*3) (.int .i64 fs[k].params)).setIfInBounds (k*3+1) (.int .i64 fs[k].locals)).setIfInBounds (k*3+2) (.slice (some ⟨g,0,none⟩) fs[k].code.length fs[k].code.length),by omega,by go_num,ak (ak (ak hblk2 _) _) _,by simpa using hsz,?_,((hb3.setCell n_l _).setCell n_l _).setCell n_l _⟩;intro j hj hjk;by_cases e:j=k
    ·subst e;refine⟨?_,?_,g,?_,(hcode.low (by omega)).above hab,by omega,hcb.above hab (by omega)⟩
     ·rw[aj _ (by omega),aj _ (by omega)];exact aC _ (by omega)
     ·rw[aj _ (by omega)];exact aC _ (by simp;omega)
     ·exact aC _ (by simp;omega)
    ·obtain⟨d1,d2,g',d3,d4,d5,d6⟩:=hdone j hj (by omega);refine⟨?_,?_,g',?_,(d4.mono hb2).above hab,d5,(d6.mono hb2).above hab d5⟩
     ·rw[aj _ (by omega),aj _ (by omega),aj _ (by omega)];exact d1
     ·rw[aj _ (by omega),aj _ (by omega),aj _ (by omega)];exact d2
     ·rw[aj _ (by omega),aj _ (by omega),aj _ (by omega)];exact d3
   case measure=>simp[intOf];omega
  ·go_wp2;go_ret
   refine⟨rfl,fun j hj=>?_,hb,⟨cur,hblk,hsz,fun j hj=>?_⟩⟩;rotate_left
   ·obtain⟨-,-,g',d3,-,d5,d6⟩:=hdone j hj (by omega);exact⟨g',d3,by omega,d6⟩
   obtain⟨d1,d2,g',d3,d4,-,-⟩:=hdone j hj (by omega);exact⟨w.heap.size,0,some ⟨g',0,none⟩,fs[j].code.length,rfl,Nat.le_refl _,by rw[ae hblk,Nat.zero_add];exact d1,by rw[ae hblk,Nat.zero_add];exact d2,by rw[ae hblk,Nat.zero_add];exact d3,d4.low (by omega)⟩
theorem toModule_made(a a2:Option Addr)(ts:List ByteArray)(fs:List Fn)(cap cap2:Nat)(w:World)(hs:dm ts fs)(hm:bc w 0 a ts)(hm2:FnsAt w 0 a2 fs) :
  Calls Tryz.prog 10 #[.agg #[.slice a ts.length cap,.slice a2 fs.length cap2]] w fun e w'=>∃g g2,w.heap.size<=g/\w.heap.size<=g2/\e=.returned (.agg #[.slice (some ⟨g,0,none⟩) ts.length ts.length,.slice (some ⟨g2,0,none⟩) fs.length fs.length]) /\
   bc w' w.heap.size (some ⟨g,0,none⟩) ts/\FnsAt w' w.heap.size (some ⟨g2,0,none⟩) fs/\Below w.heap.size w w'/\cn w' g ts.length/\cM w' w.heap.size g2 fs:=by
 go_enter Tryz.func10,Tryz.ntmps10
 go_wp2_with fail
 have hbA:Below w.heap.size w (((w.alloc (.cells #[.slice a ts.length cap,.slice a2 fs.length cap2] 25)).alloc (.cells #[.slice none 0 0,.slice none 0 0] 36)).alloc (.cells #[.slice none 0 0,.slice none 0 0] 36)):=
  ((b_r.alloc n_l _).alloc (by simp) _).alloc (by simp;omega) _
 refine (toStringS_made a ts cap _ hs.texts (hm.mono hbA)).mono ?_;rintro e w1 ⟨rfl,hst,hb,htb⟩;have hB:=ah (au (au (al w #[.slice a ts.length cap,.slice a2 fs.length cap2] 25) (.cells #[.slice none 0 0,.slice none 0 0] 36)) (.cells #[.slice none 0 0,.slice none 0 0] 36)) hb;have hR:=ah (au (al (w.alloc (.cells #[.slice a ts.length cap,.slice a2 fs.length cap2] 25)) #[.slice none 0 0,.slice none 0 0] 36) (.cells #[.slice none 0 0,.slice none 0 0] 36)) hb;have hO:=ah (al ((w.alloc (.cells #[.slice a ts.length cap,.slice a2 fs.length cap2] 25)).alloc (.cells #[.slice none 0 0,.slice none 0 0] 36)) #[.slice none 0 0,.slice none 0 0] 36) hb;simp only[World.size_alloc] at hB hR hO hst htb
 have hz1:=hb.size;simp only[World.size_alloc] at hz1
 have hb1:Below w.heap.size w w1:=hbA.trans (hb.mono (by simp;omega));have b1:=ae hB;have o1:=ae hO;have o2:=aq hO;go_wp2_with fail
 have hb1':Below w.heap.size w (w1.setCell ⟨w.heap.size+1+1,0,none⟩ (.slice (some ⟨w.heap.size+1+1+1,0,none⟩) ts.length ts.length)):=hb1.setCell (by simp;omega) _;refine (toFuncS_made a2 fs cap2 _ hs.funcs hs.code (hm2.mono hb1')).mono ?_;rintro e w2 ⟨rfl,hfn,hb2,hfb⟩;have hR2:=ah (w':=w2) (show (w1.setCell ⟨w.heap.size+1+1,0,none⟩ (.slice (some ⟨w.heap.size+1+1+1,0,none⟩) ts.length ts.length)).heap[w.heap.size+1]?=_ by rw[Below.heap_setCell _ _ _ _ (by simp)];exact hR) hb2
 have hO2:=ah (w':=w2) (ak (i:=0) hO (.slice (some ⟨w.heap.size+1+1+1,0,none⟩) ts.length ts.length)) hb2;have hst2:bc w2 (w.heap.size+1+1+1) (some ⟨w.heap.size+1+1+1,0,none⟩) ts:=(hst.above ((aZ.refl _ _).setCell (p:=⟨w.heap.size+1+1,0,none⟩) (by simp) (.slice (some ⟨w.heap.size+1+1+1,0,none⟩) ts.length ts.length))).mono hb2;have htb2:=(htb.above ((aZ.refl (w.heap.size+1+1+1) _).setCell (p:=⟨w.heap.size+1+1,0,none⟩) (by simp) (.slice (some ⟨w.heap.size+1+1+1,0,none⟩) ts.length ts.length)) n_l).mono hb2;simp only[World.size_setCell] at hfn hb2 hfb ⊢
 have hb3:Below w.heap.size w w2:=hb1'.trans (hb2.mono (by omega));simp at hO2
 have r1:=ae hR2;have r2:=aq hR2;have p1:=ae hO2;have p2:=aq hO2;clear hB hR hO b1 o1 o2 hR2 hO2 hst hb hb2 hbA hb1';go_wp2;refine bodyPost_ret (v:=.agg #[(.slice (some ⟨w.heap.size+1+1+1,0,none⟩) ts.length ts.length),.slice (some ⟨w1.heap.size,0,none⟩) fs.length fs.length]) (by simp[results,Tryz.results10,go_sem,r1]) rfl ⟨w.heap.size+1+1+1,w1.heap.size,by omega,by omega,rfl,?_,?_,?_,?_,?_⟩
 ·exact (hst2.above ((((aZ.refl _ _).setCell (by simp) _).setCell (by simp) _).setCell (by simp) _)).low (by omega)
 ·exact (hfn.above ((((aZ.refl _ _).setCell (by simp;omega) _).setCell (by simp;omega) _).setCell (by simp;omega) _)).low (by omega)
 ·exact ((hb3.setCell (by simp;omega) _).setCell (by simp) _).setCell (by simp) _
 ·exact htb2.above ((((aZ.refl _ _).setCell (by simp) _).setCell (by simp) _).setCell (by simp) _) n_l
 ·exact (hfb.above ((((aZ.refl (w.heap.size+1+1+1) _).setCell (by simp) _).setCell (by simp) _).setCell (by simp) _) (by omega) (by omega)).low (by omega)
theorem dC(k0:Int)(w:World)(h0:0<=k0)(h1:k0<=1000000000000000) :
  Calls Tryz.prog 85 #[.int .i64 k0] w fun e w'=>∃s:ByteArray,e=.returned (.string s)/\Below w.heap.size w w':=by
 by_cases hz:k0<=0
 ·go_enter Tryz.func85,Tryz.ntmps85
  go_wp2;go_ret
  exact⟨_,rfl,Below.refl _ _⟩
 ·go_enter Tryz.func85,Tryz.ntmps85
  go_wp2;go_loopw [0,3] (fun q o wr=>∃(x:Nat) (s:ByteArray),q=.int .i64 x/\o=.string s/\s.size+x<=k0/\Below w.heap.size w wr) (fun q _ _=>(intOf q).toNat)
  case atStart=>exact⟨k0.toNat,ByteArray.empty,by go_num,rfl,by simp;omega,Below.refl _ _⟩
  case round=>
   obtain⟨x,s,rfl,rfl,hsz,hb⟩:=hrel;by_cases hx:0<x
   ·have hx':(0:Int)<(x:Int):=by omega
    have hcv:=run_convert_bytes_arg (P:=Tryz.prog) (wr.alloc (.cells #[.int .u8 (48+(x:Int) % 10)] 5)) 217 5 Tryz.underlying217 Tryz.underlying5 wr.heap.size 0 1 1 [48+(x:Int) % 10] rfl
     (fun i hi=>by
             have:i=0:=by omega
             subst this;rw[dJ];rfl) 9 Tryz.underlying9
    have hsn:(strOfNums [48+(x:Int) % 10]).size<=1:=by simp[strOfNums,ByteArray.size]
    generalize strOfNums [48+(x:Int) % 10]=t at *
    go_wp2;go_roundw
    case rel=>exact⟨x / 10,t++s,by go_num,rfl,by rw[ByteArray.size_append];omega,hb.alloc hb.size _⟩
    case measure=>simp[intOf];omega
   ·have hx':(x:Int)<=0:=by omega
    go_wp2;go_ret
    exact⟨_,rfl,hb⟩
end Go.Proofs.YtbjmgmmekmfjhaaGreatDoor
namespace Go.Proofs.YtbjmgmmekmfjhaaGreatDoor
def meetR (met:List Int)(r:Int):List Int:=if r∈met then met else met++[r]
def posR (met:List Int)(r:Int):Nat:=met.idxOf r
theorem posR_new{met:List Int}{r:Int}(h:r∉met):posR met r=met.length:=List.idxOf_eq_length h
theorem posR_le(met:List Int)(r:Int):posR met r<=met.length:=List.idxOf_le_length
theorem meetR_old{met:List Int}{r:Int}(h:r∈met):meetR met r=met:=if_pos h
theorem meetR_new{met:List Int}{r:Int}(h:r∉met):meetR met r=met++[r]:=if_neg h
structure MetOk (n:Nat)(met:List Int):Prop where
 nodup:met.Nodup
 low:∀r∈met,0<=r/\r<(n:Int)
theorem MetOk.nil(n:Nat):MetOk n []:=⟨List.nodup_nil,fun _ h=>absurd h (by simp)⟩
theorem MetOk.meet{n:Nat}{met:List Int}{r:Int}(h:MetOk n met)(h0:0<=r)(h1:r<(n:Int)):MetOk n (meetR met r):=by
 unfold meetR;split
 ·exact h
 ·rename_i hr
  refine⟨?_,fun x hx=>?_⟩
  ·rw[List.nodup_append];refine⟨h.nodup,by simp,fun a ha b hb=>?_⟩;rw[List.mem_singleton] at hb;subst hb;intro e;exact hr (e▸ha)
  ·rcases List.mem_append.1 hx with hx | hx
   ·exact h.low x hx
   ·rw[List.mem_singleton] at hx;subst hx;exact⟨h0,h1⟩
theorem nodup_few:∀(n:Nat) (met:List Int),met.Nodup->(∀r∈met,0<=r/\r<(n:Int))->met.length<=n
 | 0,met,_,h=>by
  cases met with
  | nil=>simp
  | cons a l=>have:=h a (by simp);omega
 | n+1,met,hn,h=>by
  have h1:=nodup_few n (met.filter (fun r=>decide (r≠(n:Int)))) (hn.filter _) (fun r hr=>by
   have h2:=List.mem_filter.1 hr;have h3:=h r h2.1;have h4:r≠(n:Int):=by simpa using h2.2
   omega)
  have h5:met.length<=(met.filter (fun r=>decide (r≠(n:Int)))).length+1:=by
   clear h1 h;induction met with
   | nil=>simp
   | cons a l ih=>
    rw[List.nodup_cons] at hn;by_cases ha:a=(n:Int)
    ·have:l.filter (fun r=>decide (r≠(n:Int)))=l:=List.filter_eq_self.2 (fun x hx=>by
      have:x≠(n:Int):=fun e=>hn.1 (by rw[ha,<-e];exact hx)
      simpa using this)
     rw[List.filter_cons,this];simp[ha]
    ·have:=ih hn.2;rw[List.filter_cons];simp[ha]
     simpa using this
  omega
theorem MetOk.few{n:Nat}{met:List Int}(h:MetOk n met):met.length<=n:=nodup_few n met h.nodup h.low
section
variable (vals:List Vl) (nums:List Int) (first:Nat)
def bJ (met:List Int)(s:Sr):Vl:=
 if s.k=2 then vals.getD s.n.toNat ⟨0,0,⟨#[]⟩⟩
 else if s.k=3 then ⟨1,nums.getD s.n.toNat 0,⟨#[]⟩⟩
 else if s.k=4 then ⟨4,(first:Int)+posR met s.n,⟨#[]⟩⟩
 else s.v
def metS (met:List Int)(s:Sr):List Int:=if s.k=4 then meetR met s.n else met
def metL (met:List Int)(l:List Sr):List Int:=l.foldl metS met
def bu (met:List Int):List Sr->List Vl
 | []=>[]
 | s :: l=>bJ vals nums first met s :: bu (metS met s) l
theorem bN(met:List Int):∀l:List Sr,(bu vals nums first met l).length=l.length:=by
 intro l;induction l generalizing met with
 | nil=>rfl
 | cons s l ih=>simp[bu,ih]
theorem worthL_app(met:List Int)(a b:List Sr):bu vals nums first met (a++b)=bu vals nums first met a++bu vals nums first (metL met a) b:=by
 induction a generalizing met with
 | nil=>rfl
 | cons s a ih=>simp[bu,metL,ih]
theorem worthL_more(met:List Int)(l:List Sr)(k:Nat)(h:k<l.length):bu vals nums first met (l.take (k+1))=bu vals nums first met (l.take k)++[bJ vals nums first (metL met (l.take k)) l[k]]:=by
 rw[List.take_succ_eq_append_getElem h,worthL_app];rfl
theorem metL_more(met:List Int)(l:List Sr)(k:Nat)(h:k<l.length):metL met (l.take (k+1))=metS (metL met (l.take k)) l[k]:=by
 unfold metL;rw[List.take_succ_eq_append_getElem h,List.foldl_append];rfl
def metF (met:List Int)(f:EF):List Int:=metL (metL met f.locals) f.stack
def metFs (met:List Int)(l:List EF):List Int:=l.foldl metF met
def gC (met:List Int)(f:EF):Fr:=⟨f.fn,f.pc,bu vals nums first met f.locals,bu vals nums first (metL met f.locals) f.stack⟩
def bx (met:List Int):List EF->List Fr
 | []=>[]
 | f :: l=>gC vals nums first met f :: bx (metF met f) l
theorem bU(met:List Int):∀l:List EF,(bx vals nums first met l).length=l.length:=by
 intro l;induction l generalizing met with
 | nil=>rfl
 | cons s l ih=>simp[bx,ih]
theorem worthFs_app(met:List Int)(a b:List EF):bx vals nums first met (a++b)=bx vals nums first met a++bx vals nums first (metFs met a) b:=by
 induction a generalizing met with
 | nil=>rfl
 | cons s a ih=>simp[bx,metFs,ih]
theorem worthFs_more(met:List Int)(l:List EF)(k:Nat)(h:k<l.length):bx vals nums first met (l.take (k+1))=bx vals nums first met (l.take k)++[gC vals nums first (metFs met (l.take k)) l[k]]:=by
 rw[List.take_succ_eq_append_getElem h,worthFs_app];rfl
theorem metFs_more(met:List Int)(l:List EF)(k:Nat)(h:k<l.length):metFs met (l.take (k+1))=metF (metFs met (l.take k)) l[k]:=by
 unfold metFs;rw[List.take_succ_eq_append_getElem h,List.foldl_append];rfl
def dp (recs:List ER)(r:Int):List Sr:=(recs.getD r.toNat ⟨[]⟩).fields
def aS (recs:List ER)(met0:List Int):Nat->List Int×List (List Vl)
 | 0=>(met0,[])
 | i+1=>
  let p:=aS recs met0 i
  (metL p.1 (dp recs (p.1.getD i 0)),p.2++[bu vals nums first p.1 (dp recs (p.1.getD i 0))])
theorem da(recs:List ER)(met0:List Int):∀i,(aS vals nums first recs met0 i).2.length=i
 | 0=>rfl
 | i+1=>by simp[aS,da recs met0 i]
end
def cE (n:Nat)(l:List Sr):Prop:=∀s∈l,s.k=4->0<=s.n/\s.n<(n:Int)
theorem MetOk.src{n:Nat}{met:List Int}{s:Sr}(h:MetOk n met)(hs:s.k=4->0<=s.n/\s.n<(n:Int)):MetOk n (metS met s):=by
 unfold metS;split
 ·rename_i hk
  exact h.meet (hs hk).1 (hs hk).2
 ·exact h
theorem MetOk.srcs{n:Nat}:∀(l:List Sr) {met:List Int},MetOk n met->cE n l->MetOk n (metL met l)
 | [],_,h,_=>h
 | s :: l,_,h,hl=>MetOk.srcs l (h.src (hl s List.mem_cons_self)) (fun x hx=>hl x (List.mem_cons_of_mem _ hx))
theorem MetOk.frame{n:Nat}{met:List Int}{f:EF}(h:MetOk n met)(h1:cE n f.locals)(h2:cE n f.stack):MetOk n (metF met f):=(h.srcs f.locals h1).srcs f.stack h2
theorem MetOk.frames{n:Nat}:∀(l:List EF) {met:List Int},MetOk n met->(∀f∈l,cE n f.locals/\cE n f.stack)->MetOk n (metFs met l)
 | [],_,h,_=>h
 | f :: l,_,h,hl=>MetOk.frames l (h.frame (hl f List.mem_cons_self).1 (hl f List.mem_cons_self).2) (fun x hx=>hl x (List.mem_cons_of_mem _ hx))
theorem fieldsR_in{recs:List ER}(h:∀r∈recs,cE recs.length r.fields)(r:Int):cE recs.length (dp recs r):=by
 unfold dp;rw[List.getD_eq_getElem?_getD];by_cases hr:r.toNat<recs.length
 ·rw[List.getElem?_eq_getElem hr];exact h _ (g_m hr)
 ·rw[List.getElem?_eq_none (by omega)];intro s hs;exact absurd hs (by simp)
theorem c7(vals:List Vl)(nums:List Int)(first:Nat){recs:List ER}(h:∀r∈recs,cE recs.length r.fields){met0:List Int}(h0:MetOk recs.length met0):∀i,MetOk recs.length (aS vals nums first recs met0 i).1
 | 0=>h0
 | i+1=>(c7 vals nums first h h0 i).srcs _ (fieldsR_in h _)
end Go.Proofs.YtbjmgmmekmfjhaaGreatDoor
namespace Go.Proofs.YtbjmgmmekmfjhaaGreatDoor
open Go.RowKit
def gi (i:Nat)(n:Int):MapEntry:=⟨.int .i64 n,.int .i64 i,i⟩
def bW:Nat->List Int->List MapEntry
 | _,[]=>[]
 | i,n :: ms=>gi i n :: bW (i+1) ms
theorem metEnts_app:∀(i:Nat) (ms:List Int) (n:Int),bW i (ms++[n])=bW i ms++[gi (i+ms.length) n]
 | i,[],n=>by simp[bW]
 | i,m :: ms,n=>by
  rw[List.cons_append,bW,metEnts_app (i+1) ms n,bW,List.cons_append,List.length_cons,show i+1+ms.length=i+(ms.length+1) by omega]
theorem findNow_int(n:Int):∀(ms:List Int) (i j:Nat),Instr.findNow (.int .i64) (.int .i64 n) (bW i ms) j=some (if n∈ms then some (j+posR ms n,.int .i64 ((i+posR ms n:Nat):Int)) else none)
 | [],i,j=>by simp[bW,Instr.findNow]
 | m :: ms,i,j=>by
  by_cases h:n=m
  ·subst h;simp[bW,Instr.findNow,gi,Instr.sameNow,posR]
  ·have ih:=findNow_int n ms (i+1) (j+1);have e1:(n == m)=false:=by simpa using h
   have e2:(m == n)=false:=by simpa using fun e:m=n=>h e.symm
   have e3:posR (m :: ms) n=posR ms n+1:=by simp[posR,List.idxOf_cons,e2]
   rw[e3];simp only[bW,Instr.findNow,gi,Instr.sameNow,e1,ih,List.mem_cons,h,false_or,if_true]
   by_cases q:n∈ms
   ·rw[if_pos q,if_pos q,show j+1+posR ms n=j+(posR ms n+1) by omega,show i+1+posR ms n=i+(posR ms n+1) by omega]
   ·rw[if_neg q,if_neg q]
theorem ef(n:Int)(w:World)(ms:List Int):(Instr.findKey 3 (.int .i64 n) (bW 0 ms)).run Tryz.prog w=.ok (if n∈ms then some (posR ms n,.int .i64 ((posR ms n:Nat):Int)) else none) w:=by
 have hf:=findNow_int n ms 0 0;simp[Instr.findKey,run_underlying Tryz.underlying3,hf]
theorem ff(em:Bool)(n:Int)(w:World):(Instr.checkKey em 10000 3 (.int .i64 n)).run Tryz.prog w=.ok () w:=by
 have h:∀d:Nat,(Instr.checkKey em (d+1) 3 (.int .i64 n)).run Tryz.prog w=.ok () w:=fun d=>by
  unfold Instr.checkKey;simp[run_underlying Tryz.underlying3]
 exact h 9999
theorem look_int(n:Int)(b:Nat)(ms:List Int)(c:Nat)(w:World)(hm:w.heap[b]?=some (.map (bW 0 ms).toArray c)) :
  (Instr.lookup 214 (.map (some b)) (.int .i64 n) true).run Tryz.prog w=.ok (.tuple #[.int .i64 (if n∈ms then ((posR ms n:Nat):Int) else 0),.bool (decide (n∈ms))]) w:=by
 by_cases h:n∈ms
 ·simp[Instr.lookup,run_underlying Tryz.underlying214,MapKept.run_getObj_map hm,ff,ef,h]
 ·simp[Instr.lookup,run_underlying Tryz.underlying214,MapKept.run_getObj_map hm,ff,ef,h]
theorem put_int(n:Int)(b:Nat)(ms:List Int)(w:World)(hn:n∉ms)(hm:w.heap[b]?=some (.map (bW 0 ms).toArray ms.length)) :
  (Instr.mapUpdate 214 (.map (some b)) (.int .i64 n) (.int .i64 ms.length)).run Tryz.prog w=.ok () (ChangeMaps.setBlock w b (.map (bW 0 (ms++[n])).toArray (ms++[n]).length)):=by
 simp[Instr.mapUpdate,run_underlying Tryz.underlying214,MapKept.run_getObj_map hm,ff,ef,hn,MapKept.run_setObj_map _ hm,ChangeMaps.setBlock,metEnts_app,gi]
def eO:Obj->Prop
 | .cells _ t _=>t≠216/\t≠3
 | _=>False
structure Km (lo:Nat)(w w':World):Prop where
 os:w'.os=w.os
 tape:w'.tape=w.tape
 output:w'.output=w.output
 size:w.heap.size<=w'.heap.size
 block:∀k o,w.heap[k]?=some o->(k<lo\/eO o)->w'.heap[k]?=some o
theorem Km.refl(lo:Nat)(w:World):Km lo w w:=⟨rfl,rfl,rfl,Nat.le_refl _,fun _ _ h _=>h⟩
theorem Km.trans{lo:Nat}{a b c:World}(h:Km lo a b)(k:Km lo b c):Km lo a c:=
 ⟨k.os.trans h.os,k.tape.trans h.tape,k.output.trans h.output,Nat.le_trans h.size k.size,fun i o hi ho=>k.block i o (h.block i o hi ho) ho⟩
theorem Km.of{lo:Nat}{w w':World}(h:Below w.heap.size w w'):Km lo w w':=
 ⟨h.os,h.tape,h.output,h.size,fun _ _ hi _=>ah hi h⟩
theorem Km.setO{lo b i t:Nat}{a w:World}{c:Array Value}{fr:Nat×Nat}(h:Km lo a w)(hb:w.heap[b]?=some (.cells c t fr))(hlo:lo<=b)(ht:¬eO (.cells c t fr))(v:Value):Km lo a (w.setCell ⟨b,i,none⟩ v):=
 ⟨h.os,h.tape,h.output,by have:=h.size;simpa using this,fun k o hk ho=>by
  have hx:=h.block k o hk ho;by_cases e:k=b
  ·subst e;rw[hb] at hx
   cases hx;rcases ho with ho | ho
   ·omega
   ·exact absurd ho ht
  ·rw[Below.heap_setCell _ _ _ _ e];exact hx⟩
theorem Km.putM{lo b:Nat}{a w:World}{es es':Array MapEntry}{c c':Nat}(h:Km lo a w)(hb:w.heap[b]?=some (.map es c))(hlo:lo<=b):Km lo a (ChangeMaps.setBlock w b (.map es' c')):=
 ⟨h.os,h.tape,h.output,by have:=h.size;simpa[ChangeMaps.setBlock] using this,fun k o hk ho=>by
  have hx:=h.block k o hk ho;by_cases e:k=b
  ·subst e;rw[hb] at hx
   cases hx;rcases ho with ho | ho
   ·omega
   ·exact absurd ho (fun h=>h)
  ·rw[ChangeMaps.heap_setBlock_other hb _ e];exact hx⟩
theorem Km.grown{lo B n:Nat}{v:Value}{xs:List Value}{a w w':World}(h:Km lo a w)(hown:w.ownsRow B 3 1 v n xs)(hg:w.grownBy w' v.ownBlock)(hlo:lo<=B):Km lo a w':=by
 refine⟨hg.os.trans h.os,hg.tape.trans h.tape,hg.output.trans h.output,Nat.le_trans h.size hg.size,fun k o hk ho=>?_⟩;have hx:=h.block k o hk ho;have hlt:=ay hx;rw[hg.block k hlt ?_]
 ·exact hx
 ·intro hkv;rcases hown.2 with ⟨rfl,-⟩ | ⟨b,cap,cur,rfl,hb,hh,-⟩
  ·simp[Value.ownBlock] at hkv
  ·simp[Value.ownBlock] at hkv
   subst hkv;rw[hh] at hx
   cases hx;rcases ho with ho | ho
   ·omega
   ·exact absurd rfl ho.2
theorem Km.kept{lo k:Nat}{a b:World}{c:Array Value}{t:TypeId}{fr:Nat×Nat}(h:Km lo a b)(ho:a.heap[k]?=some (.cells c t fr))(ht:eO (.cells c t fr)):b.heap[k]?=some (.cells c t fr):=h.block k _ ho (.inr ht)
theorem Km.below{lo B:Nat}{a b:World}(h:Km lo a b)(hl:B<=lo)(hs:B<=a.heap.size):Below B a b:=
 ⟨h.os,h.tape,h.output,h.size,fun k hk=>by
  have:k<a.heap.size:=by omega
  rw[Array.getElem?_eq_getElem this];exact h.block k _ (Array.getElem?_eq_getElem this) (.inl (by omega))⟩
structure MetAt (w:World)(lo nb mb:Nat)(mv:Value)(ms:List Int):Prop where
 num:w.heap[nb]?=some (.cells #[.map (some mb),mv] 216 (0,0))
 map:w.heap[mb]?=some (.map (bW 0 ms).toArray ms.length)
 met:w.ownsRow (nb+1) 3 1 mv ms.length (ms.map (Value.int .i64))
 lom:lo<=mb
 mbn:mb<nb
theorem MetAt.mono{w w':World}{lo nb mb:Nat}{mv:Value}{ms:List Int}(h:MetAt w lo nb mb mv ms)(hb:Below w.heap.size w w'):MetAt w' lo nb mb mv ms:=
 ⟨ah h.num hb,ah h.map hb,h.met.kept (row:=none) ⟨hb.os,hb.tape,hb.output,hb.size,fun k hk _=>hb.block k hk⟩ (by cases mv<;>simp[Value.ownBlock]<;>rename_i a _ _<;>cases a<;>simp),h.lom,h.mbn⟩
theorem eg{w w':World}{base e size n k:Nat}{v:Value}{xs:List Value}{o:Obj}(hown:w.ownsRow base e size v n xs)(hk:k<base)(ho:w.heap[k]?=some o)(hg:w.grownBy w' v.ownBlock):w'.heap[k]?=some o:=by
 rw[hg.block k (Array.getElem?_eq_some_iff.1 ho).1 (fun e=>by have:=(hown.lt k e.symm).1;omega)];exact ho
theorem numberOf_any(lo nb mb:Nat)(mv:Value)(ms:List Int)(r:Int)(w:World)(hN:MetAt w lo nb mb mv ms)(hl:ms.length<=1048576) :
  Calls Tryz.prog 133 #[.pointer (some ⟨nb,0,none⟩),.int .i64 r] w fun e w'=>e=.returned (.int .i64 (posR ms r:Nat))/\Km lo w w'/\∃mv',MetAt w' lo nb mb mv' (meetR ms r):=by
 have n1:=ae hN.num;have hlk:=look_int r mb ms ms.length w hN.map;by_cases hm:r∈ms
 ·rw[if_pos hm,decide_eq_true hm] at hlk;have HM:Hid (r∈ms):=hm;have HN:Hid (MetAt w lo nb mb mv ms):=hN;clear hm hN;go_enter Tryz.func133,Tryz.ntmps133
  go_wp2;go_ret
  exact⟨rfl,Km.refl _ _,mv,by rw[meetR_old HM.out];exact HN.out⟩
 ·rw[if_neg hm,decide_eq_false hm] at hlk;have HM:Hid (r∉ms):=hm;obtain⟨a,cap,rfl⟩:∃a cap,mv=.slice a ms.length cap:=by
   rcases hN.met.2 with ⟨e,h0⟩ | ⟨b,cp,cu,e,-⟩
   ·exact⟨none,0,by rw[e,h0]⟩
   ·exact⟨_,cp,e⟩
  obtain⟨i0,hi,hz0,hz1,hz2⟩:=info_parts info3;obtain⟨w2,hw2⟩:∃w2,w2=ChangeMaps.setBlock w mb (.map (bW 0 (ms++[r])).toArray (ms++[r]).length):=⟨_,rfl⟩;have hput:=put_int r mb ms w hm hN.map;rw[<-hw2] at hput;have hK2:Km lo w w2:=by rw[hw2];exact (Km.refl _ _).putM hN.map hN.lom
  have hnum2:w2.heap[nb]?=some (.cells #[.map (some mb),.slice a ms.length cap] 216 (0,0)):=by
   rw[hw2,ChangeMaps.heap_setBlock_other hN.map _ (by have:=hN.mbn;omega)];exact hN.num
  have hmap2:w2.heap[mb]?=some (.map (bW 0 (ms++[r])).toArray (ms++[r]).length):=by
   rw[hw2];exact ChangeMaps.heap_setBlock_same hN.map _
  have hown2:w2.ownsRow (nb+1) 3 1 (.slice a ms.length cap) ms.length (ms.map (Value.int .i64)):=by
   refine hN.met.kept (row:=some mb) ⟨by rw[hw2];rfl,by rw[hw2];rfl,by rw[hw2];rfl,by rw[hw2];simp[ChangeMaps.setBlock],fun k _ hk=>?_⟩ ?_
   ·rw[hw2];exact ChangeMaps.heap_setBlock_other hN.map _ (fun e=>hk (by rw[e]))
   ·rcases hN.met.2 with ⟨e,-⟩ | ⟨b,cp,cu,e,hb,-⟩
    ·rw[e];exact .inl rfl
    ·rw[e];right;intro e2;simp[Value.ownBlock] at e2;have:=hN.mbn;omega
  have hz2':nb+1<=w2.heap.size:=ay hnum2;have HL:Hid (lo<=mb/\mb<nb):=⟨hN.lom,hN.mbn⟩;clear hw2 hm hN;have n2:=ae hnum2;have nA:=ae (au hnum2 (.cells #[.int .i64 r] 3));go_enter Tryz.func133,Tryz.ntmps133
  go_wp2_with (at_builtin;refine wpList_append_lies _ rfl _ _ 50 rfl (nb+1) 3 i0 (.int .i64 0) 1 8 Tryz.underlying50 hi hz0 hz1 hz2 rfl (by decide) _ _ _ rfl (World.ownsRow.alloc hown2 _) ⟨w2.heap.size,0,none⟩ 1 1 [.int .i64 r] rfl rfl (World.news_of_block (cs:=#[.int .i64 r]) (t:=3) (fr:=(0,0)) (heap_alloc_new w2 _)) (by simp[Value.oneCell']) (by decide) (by unfold maxLen;omega) (by omega) (by simp;omega) _ rfl ?_;intro g3 cap3 w3 hown3 hgrow3 hat3 hlt3;have hnum3:=eg (World.ownsRow.alloc hown2 _) (by omega) (au hnum2 _) hgrow3;have n3:=ae hnum3;have f3:=aq hnum3)
  go_ret
  have hKA:Km lo w (w2.alloc (.cells #[.int .i64 r] 3)):=hK2.trans (Km.of (b_r.alloc n_l _));have hK3:Km lo w w3:=hKA.grown (World.ownsRow.alloc hown2 _) hgrow3 (by have:=HL.out;omega);have hmap3:=eg (World.ownsRow.alloc hown2 _) (by have:=HL.out;omega) (au hmap2 _) hgrow3;have hgb3:nb+1<=g3:=by
   rcases hown3.2 with ⟨e,-⟩ | ⟨b,cp,cu,e,hb,-⟩
   ·cases e
   ·cases e;exact hb
  refine⟨by rw[posR_new HM.out];rfl,hK3.setO hnum3 (by have:=HL.out;omega) (fun h=>h.1 rfl) _,.slice (some ⟨g3,0,none⟩) (ms.length+1) cap3,?_⟩;rw[meetR_new HM.out];refine⟨?_,?_,?_,HL.out.1,HL.out.2⟩
  ·have:=ak (i:=1) hnum3 (.slice (some ⟨g3,0,none⟩) (ms.length+1) cap3);simpa using this
  ·rw[Below.heap_setCell _ _ _ _ (by have:=HL.out;show mb≠nb;omega)];exact hmap3
  ·have e1:(ms++[r]).length=ms.length+1:=by simp
   have e2:((ms++[r]).map (Value.int .i64))=(ms.map (Value.int .i64))++[.int .i64 r]:=by simp
   rw[e1,e2];refine⟨hown3.1,?_⟩;rcases hown3.2 with ⟨e,-⟩ | ⟨b,cp,cu,e,hb,hh,r⟩
   ·cases e
   ·cases e;exact .inr ⟨g3,cap3,cu,rfl,hb,by rw[Below.heap_setCell _ _ _ _ (by show g3≠nb;omega)];exact hh,r⟩
namespace Go.Proofs
open Go.Shelf Go.RowKit
end Go.Proofs
section
variable {P:Program} {ops:Array Oper} {Q:Exit->Act->World->Prop} {md:Region.Mode} {S:World->Prop}
theorem aH{i:Nat}{oi:Oper}{v:Value}{n:Nat}{listed:Array Bool}{a:Act}{w:World}(hi:ops[i]?=some oi)
  (hs:Region.noSelect ops=true) (hf:Region.free md ops listed i=true) (hr:(Region.ready md ops listed).contains i=true)
  (hQ:∀c a w,Q (.panic c) (a.put oi.dst v) w->Q (.panic c) a w) (hw:Region.wanted oi (yielded ops a.tmps)=true)
  (hy:∀w,S w->(execOp a.eval oi).run P w=.ok (.value v) w) (hS:S w)
  (h:wpAnyH P md ops Q S n (listed.setIfInBounds i true) (a.put oi.dst v) w):wpAnyH P md ops Q S (n+1) listed a w:=
 wpAnyH_take hi hs hf hr hQ (.inl ⟨hw,hy⟩) hS h
theorem bt{i:Nat}{oi:Oper}{n:Nat}{listed:Array Bool}{a:Act}{w:World}(hi:ops[i]?=some oi)
  (hs:Region.noSelect ops=true) (hf:Region.free md ops listed i=true) (hr:(Region.ready md ops listed).contains i=true)
  (hQ:∀c a w,Q (.panic c) (a.put oi.dst undef) w->Q (.panic c) a w) (hw:Region.wanted oi (yielded ops a.tmps)=false) (hS:S w)
  (h:wpAnyH P md ops Q S n (listed.setIfInBounds i true) (a.put oi.dst undef) w):wpAnyH P md ops Q S (n+1) listed a w:=
 wpAnyH_take hi hs hf hr hQ (.inr ⟨hw,rfl⟩) hS h
theorem dz{i:Nat}{o:Oper}{n:Nat}{listed:Array Bool}{a:Act}{w:World}(hr:Region.ready md ops listed=[i])(ho:ops[i]?=some o)
  (h:∀K':Act->World->Prop,Shut (∀a w',S w'->wpAnyH P md ops Q S n (listed.setIfInBounds i true) a w'->K' a w')->if Region.wanted o (yielded ops a.tmps)=true then Oper.wp P o a w K' Q else K' (a.put o.dst undef) w) :
  wpAnyH P md ops Q S (n+1) listed a w:=by
 refine⟨fun h0=>(by rw[hr] at h0;cases h0),fun j hj=>?_⟩;rw[hr] at hj;obtain rfl:=List.mem_singleton.1 hj;exact wpOp_step ho (fun K' hK=>h K' (fun a w hS hW=>hK a w ⟨hS,hW⟩))
theorem fL{i:Nat}{o:Oper}{n:Nat}{listed:Array Bool}{a:Act}{w:World}(ho:ops[i]?=some o)
  (h:∀K':Act->World->Prop,Shut (∀a w',S w'->wpAnyH P md ops Q S n (listed.setIfInBounds i true) a w'->K' a w')->if Region.wanted o (yielded ops a.tmps)=true then Oper.wp P o a w K' Q else K' (a.put o.dst undef) w) :
  wpOp P ops Q i (fun a' w'=>S w'/\wpAnyH P md ops Q S n (listed.setIfInBounds i true) a' w') a w:=
 wpOp_step ho (fun K' hK=>h K' (fun a w hS hW=>hK a w ⟨hS,hW⟩))
theorem gd{id:Nat}{a:Act}{w:World}(S:World->Prop)(hm:P.follows .mixedOrders=true)(h:wpAnyH P .any ops Q S ops.size (Array.replicate ops.size false) a w.drew):(Code.region id ops true).wp P Q a w:=
 wp_region_held hm h
end
end Go.Proofs.YtbjmgmmekmfjhaaGreatDoor
namespace Go.Proofs.YtbjmgmmekmfjhaaGreatDoor
theorem meetR_grow(met:List Int)(r:Int):met.length<=(meetR met r).length:=by
 unfold meetR;split
 ·exact Nat.le_refl _
 ·simp
theorem metS_grow(met:List Int)(s:Sr):met.length<=(metS met s).length:=by
 unfold metS;split
 ·exact meetR_grow _ _
 ·exact Nat.le_refl _
theorem metL_grow:∀(l:List Sr) (met:List Int),met.length<=(metL met l).length
 | [],_=>Nat.le_refl _
 | s :: l,met=>Nat.le_trans (metS_grow met s) (metL_grow l (metS met s))
theorem recsAt_grow(vals:List Vl)(nums:List Int)(first:Nat)(recs:List ER)(met0:List Int)(i:Nat):(aS vals nums first recs met0 i).1.length<=(aS vals nums first recs met0 (i+1)).1.length:=metL_grow _ _
theorem least_not(P:Nat->Prop):∀n,¬P n->∃k,k<=n/\¬P k/\∀j,j<k->P j:=by
 intro n;induction n using Nat.strongRecOn with
 | ind n ih=>
  intro h;by_cases q:∀j,j<n->P j
  ·exact⟨n,Nat.le_refl _,h,q⟩
  ·obtain⟨j,hj⟩:=Classical.not_forall.1 q;obtain⟨h1,h2⟩:=Classical.not_imp.1 hj;obtain⟨k,k1,k2,k3⟩:=ih j h1 h2;exact⟨k,by omega,k2,k3⟩
structure Built (vals:List Vl)(nums:List Int)(first:Nat)(recs:List ER)(met0:List Int)(k:Nat):Prop where
 done:(aS vals nums first recs met0 k).1.length=k
 more:∀j,j<k->j<(aS vals nums first recs met0 j).1.length
theorem Built.one{vals:List Vl}{nums:List Int}{first:Nat}{recs:List ER}{met0:List Int}{k j:Nat}(h:Built vals nums first recs met0 k)(h':Built vals nums first recs met0 j):k=j:=by
 rcases Nat.lt_trichotomy k j with q | q | q
 ·have h1:=h'.more k q;have h2:=h.done;omega
 ·exact q
 ·have h1:=h.more j q;have h2:=h'.done;omega
theorem built_some(vals:List Vl)(nums:List Int)(first:Nat){recs:List ER}(h:∀r∈recs,cE recs.length r.fields){met0:List Int}(h0:MetOk recs.length met0):∃k,k<=recs.length/\Built vals nums first recs met0 k:=by
 obtain⟨k,k1,k2,k3⟩:=least_not (fun j=>j<(aS vals nums first recs met0 j).1.length) recs.length (by
  have:=(c7 vals nums first h h0 recs.length).few
  omega)
 refine⟨k,k1,?_,k3⟩
 cases k with
 | zero=>omega
 | succ j=>
  have h1:=k3 j (by omega);have h2:=recsAt_grow vals nums first recs met0 j
  omega
theorem recsAt_in(vals:List Vl)(nums:List Int)(first:Nat){recs:List ER}(h:∀r∈recs,cE recs.length r.fields){met0:List Int}(h0:MetOk recs.length met0)(i:Nat)(hi:i<(aS vals nums first recs met0 i).1.length):∃k:Nat,(aS vals nums first recs met0 i).1[i]=(k:Int)/\k<recs.length:=by
 have h1:=(c7 vals nums first h h0 i).low _ (g_m hi)
 exact⟨((aS vals nums first recs met0 i).1[i]).toNat,by omega,by omega⟩
end Go.Proofs.YtbjmgmmekmfjhaaGreatDoor
namespace Go.Proofs.YtbjmgmmekmfjhaaGreatDoor
open Go.RowKit
section
variable {P:Program} {ops:Array Oper} {Q:Exit->Act->World->Prop} {md:Region.Mode} {S:World->Prop} {R:Nat->World->World->Prop}
def cO (P:Program)(md:Region.Mode)(ops:Array Oper)(Q:Exit->Act->World->Prop)(R:Nat->World->World->Prop):Nat->Array Bool->Act->World->Prop
 | 0,listed,a,w=>Region.ready md ops listed=[]/\Q .normal a w
 | n+1,listed,a,w=>(Region.ready md ops listed=[]->Q .normal a w) /\
  ∀i∈Region.ready md ops listed,wpOp P ops Q i (fun a' w'=>R i w w'/\cO P md ops Q R n (listed.setIfInBounds i true) a' w') a w
theorem wpAny_of_T:∀(n:Nat) (listed:Array Bool) (a:Act) (w:World),cO P md ops Q R n listed a w->wpAny P md ops Q n listed a w
 | 0,_,_,_,h=>h
 | n+1,_,_,_,h=>⟨h.1,fun i hi=>wpOp_mono (fun a' w' h'=>wpAny_of_T n _ a' w' h'.2) (h.2 i hi)⟩
def fN (md:Region.Mode)(ops:Array Oper)(listed:Array Bool)(W:List Nat)(i:Nat):Bool:=
 W.all (fun c=>(listed.getD c true == false) && (match ops[c]? with
  | some o=>o.after.toList.any (fun e=>Region.binds md e && (e.on == i || W.contains e.on))
  | none=>false))
theorem eD{listed:Array Bool}{i:Nat}(h0:listed.getD i true=false)(h:listed.getD i false=true):False:=by
 rcases Nat.lt_or_ge i listed.size with h' | h'
 ·simp[h'] at h0 h;rw[h0] at h;cases h
 ·simp[Array.getElem?_eq_none h'] at h
theorem not_ready{listed:Array Bool}{W:List Nat}{i j:Nat}(hi:i∈Region.ready md ops listed)(hj:j∈Region.ready md ops listed)(h:fN md ops listed W i=true):j∉W:=by
 intro hW;have hall:=List.all_eq_true.1 h;have hc:=hall j hW;obtain⟨-,o,ho,hb⟩:=mem_ready.1 hj;rw[Bool.and_eq_true,ho] at hc;obtain⟨e,he,h2⟩:=List.any_eq_true.1 hc.2;rw[Bool.and_eq_true,Bool.or_eq_true,beq_iff_eq] at h2;have h3:=hb e (by simpa using he) h2.1;rcases h2.2 with h4 | h4
 ·rw[h4] at h3;exact eD (mem_ready.1 hi).1 h3
 ·have h5:=hall e.on (by simpa using h4);rw[Bool.and_eq_true,beq_iff_eq] at h5;exact eD h5.1 h3
theorem awaits_more{listed:Array Bool}{W:List Nat}{i j:Nat}(h:fN md ops listed W i=true)(hj:j∉W):fN md ops (listed.setIfInBounds j true) W i=true:=by
 refine List.all_eq_true.2 fun c hc=>?_
 have h1:=List.all_eq_true.1 h c hc;rw[Bool.and_eq_true] at *;exact⟨by rw[getD_set_ne true (fun e=>hj (by rw[e];exact hc))];exact h1.1,h1.2⟩
theorem not_after{listed:Array Bool}{i:Nat}{oj:Oper}(hi:i∈Region.ready md ops listed)(hall:∀e∈oj.after,Region.binds md e=true->listed.getD e.on false=true):∀e∈oj.after,Region.binds md e=true->e.on≠i:=
 fun e he hb heq=>eD (mem_ready.1 hi).1 (by have h1:=hall e he hb;rw[heq] at h1;exact h1)
theorem wpAnyT_first{i:Nat}{oi:Oper}{v:Value}{W:List Nat}(hi:ops[i]?=some oi)(hsel:∀(j:Nat) (o:Oper) cs b,ops[j]?=some o->o.op≠.select cs b)
  (hQ:∀c a w,Q (.panic c) (a.put oi.dst v) w->Q (.panic c) a w) (hR:∀w,R i w w) (hW:∀j,j∉W->∀w w',S w->R j w w'->S w') (n:Nat):∀(listed:Array Bool) (a:Act) (w:World),fN md ops listed W i=true ->
   (∀j oj,ops[j]?=some oj->j≠i->listed.getD j true=false->(∀e∈oj.after,Region.binds md e=true->e.on≠i)->oi.apart ops oj=true) ->
   i∈Region.ready md ops listed->YieldsIf P ops S oi v a->S w ->
   cO P md ops Q R n (listed.setIfInBounds i true) (a.put oi.dst v) w->cO P md ops Q R (n+1) listed a w:=by
 induction n with
 | zero=>
  intro listed a w _ _ hr hy hS H;refine⟨fun h=>(by rw[h] at hr;cases hr),fun j hj=>?_⟩;by_cases hji:j=i
  ·subst hji;exact hy.wpOp hi hS ⟨hR w,H⟩
  ·have h:=ready_mono hj hji;rw[H.1] at h
   cases h
 | succ n ih=>
  intro listed a w hT hfree hr hy hS H;refine⟨fun h=>(by rw[h] at hr;cases hr),fun j hj=>?_⟩;by_cases hji:j=i
  ·subst hji;exact hy.wpOp hi hS ⟨hR w,H⟩
  obtain⟨hjun,oj,hoj,hall⟩:=mem_ready.1 hj;have hjW:j∉W:=not_ready hr hj hT;have h2:=wpOp_putIf hoj (hfree j oj hoj hji hjun (not_after hr hall)) (fun cs b=>hsel i oi cs b hi) (fun cs b=>hsel j oj cs b hoj) hQ hy (H.2 j (ready_mono hj hji));refine wpOp_mono (fun a' w' h3=>⟨h3.2.1,ih (listed.setIfInBounds j true) a' w' (awaits_more hT hjW) (fun k ok hk hki hun hno=>?_) (ready_mono hr (Ne.symm hji)) h3.1 (hW j hjW w w' hS h3.2.1) ?_⟩) h2
  ·refine hfree k ok hk hki ?_ hno;by_cases hjk:j=k
   ·subst hjk;exact hjun
   ·rw[getD_set_ne true hjk] at hun;exact hun
  ·rw[Array.setIfInBounds_comm _ _ hji];exact h3.2.2
theorem wpAnyT_take{i:Nat}(S:World->Prop)(W:List Nat){oi:Oper}{v:Value}{n:Nat}{listed:Array Bool}{a:Act}{w:World}(hi:ops[i]?=some oi)
  (hs:Region.noSelect ops=true) (hf:Region.free md ops listed i=true) (hr:(Region.ready md ops listed).contains i=true) (hT:fN md ops listed W i=true)
  (hQ:∀c a w,Q (.panic c) (a.put oi.dst v) w->Q (.panic c) a w) (hw:Region.wanted oi (yielded ops a.tmps)=true) (hR:∀w,R i w w) (hW:∀j,j∉W->∀w w',S w->R j w w'->S w')
  (hy:∀w,S w->(execOp a.eval oi).run P w=.ok (.value v) w) (hS:S w)
  (h:cO P md ops Q R n (listed.setIfInBounds i true) (a.put oi.dst v) w):cO P md ops Q R (n+1) listed a w:=
 wpAnyT_first hi (Region.noSelect_spec hs) hQ hR hW n listed a w hT (Region.free_spec hi hf) (by simpa using hr) (.inl ⟨hw,hy⟩) hS h
theorem ba{i:Nat}{o:Oper}{n:Nat}{listed:Array Bool}{a:Act}{w:World}(hr:Region.ready md ops listed=[i])(ho:ops[i]?=some o)
  (h:∀K':Act->World->Prop,Shut (∀a w',R i w w'->cO P md ops Q R n (listed.setIfInBounds i true) a w'->K' a w')->if Region.wanted o (yielded ops a.tmps)=true then Oper.wp P o a w K' Q else K' (a.put o.dst undef) w) :
  cO P md ops Q R (n+1) listed a w:=by
 refine⟨fun h0=>(by rw[hr] at h0;cases h0),fun j hj=>?_⟩;rw[hr] at hj;obtain rfl:=List.mem_singleton.1 hj;exact wpOp_step ho (fun K' hK=>h K' (fun a w hS hW=>hK a w ⟨hS,hW⟩))
theorem bB{listed:Array Bool}{a:Act}{w:World}(hr:Region.ready md ops listed=[])(h:Q .normal a w):∀n,cO P md ops Q R n listed a w
 | 0=>⟨hr,h⟩
 | _+1=>⟨fun _=>h,by rw[hr];simp⟩
theorem bC{id:Nat}{a:Act}{w:World}(R:Nat->World->World->Prop)(hm:P.follows .mixedOrders=true)(h:cO P .any ops Q R ops.size (Array.replicate ops.size false) a w.drew):(Code.region id ops true).wp P Q a w:=
 wp_region_any hm (wpAny_of_T _ _ _ _ h)
theorem keepS{S:World->Prop}{hard W:List Nat}(h:hard.all (fun c=>W.contains c)=true):∀j,j∉W->∀w w':World,S w->(j∈hard\/(S w->S w'))->S w':=fun j hj _ _ hS hR=>by
 rcases hR with q | q
 ·exact absurd (by simpa using List.all_eq_true.1 h j q) hj
 ·exact q hS
abbrev RS (hard:List Nat) (S:World->Prop):Nat->World->World->Prop:=fun j wa wb=>j∈hard\/(S wa->S wb)
theorem and4{a b c d:Bool}(h:(a && b && c && d)=true):a=true/\b=true/\c=true/\d=true:=by cases a<;>cases b<;>cases c<;>cases d<;>simp_all
theorem tkP{hard:List Nat}{i:Nat}{oi:Oper}{v:Value}{n:Nat}{listed:Array Bool}{a:Act}{w:World}(hi:ops[i]?=some oi)
  (hc:(Region.noSelect ops && Region.free md ops listed i && (Region.ready md ops listed).contains i && Region.wanted oi (yielded ops a.tmps))=true)
  (hQ:∀c a w,Q (.panic c) (a.put oi.dst v) w->Q (.panic c) a w) (hy:∀w,(execOp a.eval oi).run P w=.ok (.value v) w)
  (h:cO P md ops Q (RS hard S) n (listed.setIfInBounds i true) (a.put oi.dst v) w):cO P md ops Q (RS hard S) (n+1) listed a w:=
 wpAnyT_take (fun _=>True) [] hi (and4 hc).1 (and4 hc).2.1 (and4 hc).2.2.1 rfl hQ (and4 hc).2.2.2 (fun _=>.inr (fun h=>h)) (fun _ _ _ _ _ _=>trivial) (fun w _=>hy w) trivial h
theorem tkS{hard:List Nat}{i:Nat}(W:List Nat){oi:Oper}{v:Value}{n:Nat}{listed:Array Bool}{a:Act}{w:World}(hi:ops[i]?=some oi)
  (hc:(Region.noSelect ops && Region.free md ops listed i && (Region.ready md ops listed).contains i && Region.wanted oi (yielded ops a.tmps))=true) (hT:(fN md ops listed W i && hard.all (fun c=>W.contains c))=true)
  (hQ:∀c a w,Q (.panic c) (a.put oi.dst v) w->Q (.panic c) a w) (hy:∀w,S w->(execOp a.eval oi).run P w=.ok (.value v) w) (hS:S w)
  (h:cO P md ops Q (RS hard S) n (listed.setIfInBounds i true) (a.put oi.dst v) w):cO P md ops Q (RS hard S) (n+1) listed a w:=
 wpAnyT_take S W hi (and4 hc).1 (and4 hc).2.1 (and4 hc).2.2.1 ((Bool.and_eq_true _ _).mp hT).1 hQ (and4 hc).2.2.2 (fun _=>.inr (fun h=>h)) (keepS ((Bool.and_eq_true _ _).mp hT).2) hy hS h
end
def noSl (o:Option Value):Prop:=∀a n k,o≠some (.slice a n k)
theorem az(k:IntKind)(i:Int):noSl (some (.int k i)):=fun _ _ _ h=>by cases h
theorem eU(s:ByteArray):noSl (some (.string s)):=fun _ _ _ h=>by cases h
theorem aG{c:Array Value}{i j:Nat}{v:Value}(h:noSl c[j]?)(hv:noSl (some v)):noSl (c.setIfInBounds i v)[j]?:=by
 by_cases e:j=i
 ·subst e;by_cases hj:j<c.size
  ·rw[aC v hj];exact hv
  ·rw[Array.getElem?_eq_none (by simp;omega)];intro _ _ _ q;cases q
 ·rw[aj v e];exact h
structure Mild (w w':World):Prop where
 blk:∀(b:Nat) (c:Array Value) (t:TypeId),w.heap[b]?=some (Obj.cells c t (0,0))->∃c':Array Value,w'.heap[b]?=some (Obj.cells c' t (0,0))/\c'.size=c.size/\∀(i:Nat) a n k,c[i]?=some (Value.slice a n k)↔c'[i]?=some (Value.slice a n k)
theorem Mild.refl(w:World):Mild w w:=⟨fun _ c _ h=>⟨c,h,rfl,fun _ _ _ _=>Iff.rfl⟩⟩
theorem Mild.trans{a b c:World}(h:Mild a b)(k:Mild b c):Mild a c:=⟨fun i x t hi=>by
 obtain⟨y,hy,e1,f1⟩:=h.blk i x t hi;obtain⟨z,hz,e2,f2⟩:=k.blk i y t hy;exact⟨z,hz,e2.trans e1,fun i a n k=>(f1 i a n k).trans (f2 i a n k)⟩⟩
theorem Mild.below{w w':World}(h:Below w.heap.size w w'):Mild w w':=⟨fun _ c _ hb=>⟨c,ah hb h,rfl,fun _ _ _ _=>Iff.rfl⟩⟩
theorem Mild.one{w:World}{g i:Nat}{cur:Array Value}{t:TypeId}{v:Value}(hb:w.heap[g]?=some (.cells cur t (0,0)))(hn:noSl cur[i]?)(hv:noSl (some v)):Mild w (w.setCell ⟨g,i,none⟩ v):=⟨fun b c u hc=>by
 by_cases e:b=g
 ·subst e;rw[hb] at hc
  cases hc;refine⟨_,ak hb v,by simp,fun j a n k=>?_⟩;by_cases ej:j=i
  ·subst ej;exact⟨fun q=>absurd q (hn a n k),fun q=>absurd q (aG hn hv a n k)⟩
  ·rw[aj v ej]
 ·exact⟨c,by rw[Below.heap_setCell _ _ _ _ e];exact hc,rfl,fun _ _ _ _=>Iff.rfl⟩⟩
theorem Mild.set{a w:World}(h:Mild a w){g i:Nat}{cur:Array Value}{t:TypeId}{v:Value}(hb:w.heap[g]?=some (.cells cur t (0,0)))(hn:noSl cur[i]?)(hv:noSl (some v)):Mild a (w.setCell ⟨g,i,none⟩ v):=h.trans (Mild.one hb hn hv)
theorem Mild.slice{w w':World}(h:Mild w w'){b i:Nat}{c:Array Value}{t:TypeId}(hb:w.heap[b]?=some (.cells c t (0,0))){a:Option Addr}{n k:Nat}(hc:c[i]?=some (.slice a n k)):w'.cell? ⟨b,i,none⟩=some (.slice a n k):=by
 obtain⟨c',h1,-,h3⟩:=h.blk b c t hb;rw[ae h1];exact (h3 i a n k).1 hc
def bX (lo:Nat)(w w':World):Prop:=∀(k:Nat) o,lo<=k->w.heap[k]?=some o->w'.heap[k]?=some o
theorem bX.below{lo:Nat}{w w':World}(h:Below w.heap.size w w'):bX lo w w':=fun _ _ _ hk=>ah hk h
theorem bX.above{lo:Nat}{w w':World}(h:aZ lo w w'):bX lo w w':=fun k _ hl hk=>by rw[h k hl (Array.getElem?_eq_some_iff.1 hk).1];exact hk
def SrB (w:World)(lo g:Nat)(xs:List Sr):Prop:=lo<=g/\∃cur:Array Value,w.heap[g]?=some (.cells cur 212 (0,0))/\cur.size=xs.length*5/\∀j (_:j<xs.length),noSl cur[j*5]?/\noSl cur[j*5+1]?/\noSl cur[j*5+2]?/\noSl cur[j*5+3]?/\noSl cur[j*5+4]?
theorem SrB.keep{w w':World}{lo g:Nat}{xs:List Sr}(h:SrB w lo g xs)(hk:bX lo w w'):SrB w' lo g xs:=by
 obtain⟨hl,cur,h1,h2,h3⟩:=h;refine⟨hl,cur,hk _ _ hl h1,h2,fun j hj=>?_⟩;obtain⟨n0,n1,n2,n3,n4⟩:=h3 j hj;exact⟨n0,n1,n2,n3,n4⟩
theorem SrB.low{w:World}{lo lo' g:Nat}{xs:List Sr}(h:SrB w lo g xs)(hl:lo'<=lo):SrB w lo' g xs:=by
 obtain⟨hl1,cur,h1,h2,h3⟩:=h;refine⟨by omega,cur,h1,h2,fun j hj=>?_⟩;obtain⟨n0,n1,n2,n3,n4⟩:=h3 j hj;exact⟨n0,n1,n2,n3,n4⟩
theorem SrB.mild{w w':World}{lo g:Nat}{xs:List Sr}(h:SrB w lo g xs)(hk:Mild w w'):SrB w' lo g xs:=by
 obtain⟨hl,cur,h1,h2,h3⟩:=h;obtain⟨c2,k1,k2,k3⟩:=hk.blk _ _ _ h1;refine⟨hl,c2,k1,k2.trans h2,fun j hj=>?_⟩;obtain⟨n0,n1,n2,n3,n4⟩:=h3 j hj;exact⟨fun a n k q=>n0 a n k ((k3 _ _ _ _).2 q),fun a n k q=>n1 a n k ((k3 _ _ _ _).2 q),fun a n k q=>n2 a n k ((k3 _ _ _ _).2 q),fun a n k q=>n3 a n k ((k3 _ _ _ _).2 q),fun a n k q=>n4 a n k ((k3 _ _ _ _).2 q)⟩
structure SrY (w:World)(lo:Nat)(a:Option Addr)(xs:List Sr):Prop where
 at_:bD w lo a xs
 sh:∃g,a=some ⟨g,0,none⟩/\SrB w lo g xs
theorem SrY.mono{w w':World}{lo:Nat}{a:Option Addr}{xs:List Sr}(h:SrY w lo a xs)(hb:Below w.heap.size w w'):SrY w' lo a xs:=⟨h.at_.mono hb,by obtain⟨g,h1,h2⟩:=h.sh;exact⟨g,h1,h2.keep (bX.below hb)⟩⟩
theorem SrY.above{w w':World}{lo:Nat}{a:Option Addr}{xs:List Sr}(h:SrY w lo a xs)(hb:aZ lo w w'):SrY w' lo a xs:=⟨h.at_.above hb,by obtain⟨g,h1,h2⟩:=h.sh;exact⟨g,h1,h2.keep (bX.above hb)⟩⟩
theorem SrY.low{w:World}{lo lo':Nat}{a:Option Addr}{xs:List Sr}(h:SrY w lo a xs)(hl:lo'<=lo):SrY w lo' a xs:=⟨h.at_.low hl,by obtain⟨g,h1,h2⟩:=h.sh;exact⟨g,h1,h2.low hl⟩⟩
theorem SrY.of{w:World}{lo g:Nat}{xs:List Sr}(h:SrY w lo (some ⟨g,0,none⟩) xs):SrB w lo g xs:=by obtain⟨g2,h1,h2⟩:=h.sh;cases h1;exact h2
def EFB (w:World)(lo g:Nat)(xs:List EF):Prop:=lo<=g/\∃cur:Array Value,w.heap[g]?=some (.cells cur 114 (0,0))/\cur.size=xs.length*4/\∀j (_:j<xs.length),noSl cur[j*4]?/\noSl cur[j*4+1]?/\∃g0 g1,cur[j*4+2]?=some (.slice (some ⟨g0,0,none⟩) xs[j].locals.length xs[j].locals.length)/\cur[j*4+3]?=some (.slice (some ⟨g1,0,none⟩) xs[j].stack.length xs[j].stack.length)/\SrB w lo g0 xs[j].locals/\SrB w lo g1 xs[j].stack
theorem EFB.keep{w w':World}{lo g:Nat}{xs:List EF}(h:EFB w lo g xs)(hk:bX lo w w'):EFB w' lo g xs:=by
 obtain⟨hl,cur,h1,h2,h3⟩:=h;refine⟨hl,cur,hk _ _ hl h1,h2,fun j hj=>?_⟩;obtain⟨n0,n1,g0,g1,d0,d1,s0,s1⟩:=h3 j hj;exact⟨n0,n1,g0,g1,d0,d1,s0.keep hk,s1.keep hk⟩
theorem EFB.low{w:World}{lo lo' g:Nat}{xs:List EF}(h:EFB w lo g xs)(hl:lo'<=lo):EFB w lo' g xs:=by
 obtain⟨hl1,cur,h1,h2,h3⟩:=h;refine⟨by omega,cur,h1,h2,fun j hj=>?_⟩;obtain⟨n0,n1,g0,g1,d0,d1,s0,s1⟩:=h3 j hj;exact⟨n0,n1,g0,g1,d0,d1,s0.low hl,s1.low hl⟩
theorem EFB.mild{w w':World}{lo g:Nat}{xs:List EF}(h:EFB w lo g xs)(hk:Mild w w'):EFB w' lo g xs:=by
 obtain⟨hl,cur,h1,h2,h3⟩:=h;obtain⟨c2,k1,k2,k3⟩:=hk.blk _ _ _ h1;refine⟨hl,c2,k1,k2.trans h2,fun j hj=>?_⟩;obtain⟨n0,n1,g0,g1,d0,d1,s0,s1⟩:=h3 j hj;exact⟨fun a n k q=>n0 a n k ((k3 _ _ _ _).2 q),fun a n k q=>n1 a n k ((k3 _ _ _ _).2 q),g0,g1,(k3 _ _ _ _).1 d0,(k3 _ _ _ _).1 d1,s0.mild hk,s1.mild hk⟩
structure EFY (w:World)(lo:Nat)(a:Option Addr)(xs:List EF):Prop where
 at_:cg w lo a xs
 sh:∃g,a=some ⟨g,0,none⟩/\EFB w lo g xs
theorem EFY.mono{w w':World}{lo:Nat}{a:Option Addr}{xs:List EF}(h:EFY w lo a xs)(hb:Below w.heap.size w w'):EFY w' lo a xs:=⟨h.at_.mono hb,by obtain⟨g,h1,h2⟩:=h.sh;exact⟨g,h1,h2.keep (bX.below hb)⟩⟩
theorem EFY.above{w w':World}{lo:Nat}{a:Option Addr}{xs:List EF}(h:EFY w lo a xs)(hb:aZ lo w w'):EFY w' lo a xs:=⟨h.at_.above hb,by obtain⟨g,h1,h2⟩:=h.sh;exact⟨g,h1,h2.keep (bX.above hb)⟩⟩
theorem EFY.low{w:World}{lo lo':Nat}{a:Option Addr}{xs:List EF}(h:EFY w lo a xs)(hl:lo'<=lo):EFY w lo' a xs:=⟨h.at_.low hl,by obtain⟨g,h1,h2⟩:=h.sh;exact⟨g,h1,h2.low hl⟩⟩
theorem EFY.of{w:World}{lo g:Nat}{xs:List EF}(h:EFY w lo (some ⟨g,0,none⟩) xs):EFB w lo g xs:=by obtain⟨g2,h1,h2⟩:=h.sh;cases h1;exact h2
def ERB (w:World)(lo g:Nat)(xs:List ER):Prop:=lo<=g/\∃cur:Array Value,w.heap[g]?=some (.cells cur 200 (0,0))/\cur.size=xs.length*1/\∀j (_:j<xs.length),∃g0,cur[j]?=some (.slice (some ⟨g0,0,none⟩) xs[j].fields.length xs[j].fields.length)/\SrB w lo g0 xs[j].fields
theorem ERB.keep{w w':World}{lo g:Nat}{xs:List ER}(h:ERB w lo g xs)(hk:bX lo w w'):ERB w' lo g xs:=by
 obtain⟨hl,cur,h1,h2,h3⟩:=h;refine⟨hl,cur,hk _ _ hl h1,h2,fun j hj=>?_⟩;obtain⟨g0,d0,s0⟩:=h3 j hj;exact⟨g0,d0,s0.keep hk⟩
theorem ERB.low{w:World}{lo lo' g:Nat}{xs:List ER}(h:ERB w lo g xs)(hl:lo'<=lo):ERB w lo' g xs:=by
 obtain⟨hl1,cur,h1,h2,h3⟩:=h;refine⟨by omega,cur,h1,h2,fun j hj=>?_⟩;obtain⟨g0,d0,s0⟩:=h3 j hj;exact⟨g0,d0,s0.low hl⟩
theorem ERB.mild{w w':World}{lo g:Nat}{xs:List ER}(h:ERB w lo g xs)(hk:Mild w w'):ERB w' lo g xs:=by
 obtain⟨hl,cur,h1,h2,h3⟩:=h;obtain⟨c2,k1,k2,k3⟩:=hk.blk _ _ _ h1;refine⟨hl,c2,k1,k2.trans h2,fun j hj=>?_⟩;obtain⟨g0,d0,s0⟩:=h3 j hj;exact⟨g0,(k3 _ _ _ _).1 d0,s0.mild hk⟩
structure ERY (w:World)(lo:Nat)(a:Option Addr)(xs:List ER):Prop where
 at_:cj w lo a xs
 sh:∃g,a=some ⟨g,0,none⟩/\ERB w lo g xs
theorem ERY.mono{w w':World}{lo:Nat}{a:Option Addr}{xs:List ER}(h:ERY w lo a xs)(hb:Below w.heap.size w w'):ERY w' lo a xs:=⟨h.at_.mono hb,by obtain⟨g,h1,h2⟩:=h.sh;exact⟨g,h1,h2.keep (bX.below hb)⟩⟩
theorem ERY.above{w w':World}{lo:Nat}{a:Option Addr}{xs:List ER}(h:ERY w lo a xs)(hb:aZ lo w w'):ERY w' lo a xs:=⟨h.at_.above hb,by obtain⟨g,h1,h2⟩:=h.sh;exact⟨g,h1,h2.keep (bX.above hb)⟩⟩
theorem ERY.low{w:World}{lo lo':Nat}{a:Option Addr}{xs:List ER}(h:ERY w lo a xs)(hl:lo'<=lo):ERY w lo' a xs:=⟨h.at_.low hl,by obtain⟨g,h1,h2⟩:=h.sh;exact⟨g,h1,h2.low hl⟩⟩
theorem ERY.of{w:World}{lo g:Nat}{xs:List ER}(h:ERY w lo (some ⟨g,0,none⟩) xs):ERB w lo g xs:=by obtain⟨g2,h1,h2⟩:=h.sh;cases h1;exact h2
def ExB (w:World)(lo g:Nat)(xs:List Ex):Prop:=lo<=g/\∃cur:Array Value,w.heap[g]?=some (.cells cur 101 (0,0))/\cur.size=xs.length*7/\∀j (_:j<xs.length),noSl cur[j*7]?/\noSl cur[j*7+1]?/\noSl cur[j*7+2]?/\noSl cur[j*7+3]?/\noSl cur[j*7+4]?/\∃g0 g1,cur[j*7+5]?=some (.slice (some ⟨g0,0,none⟩) xs[j].frames.length xs[j].frames.length)/\cur[j*7+6]?=some (.slice (some ⟨g1,0,none⟩) xs[j].recs.length xs[j].recs.length)/\EFB w lo g0 xs[j].frames/\ERB w lo g1 xs[j].recs
theorem ExB.keep{w w':World}{lo g:Nat}{xs:List Ex}(h:ExB w lo g xs)(hk:bX lo w w'):ExB w' lo g xs:=by
 obtain⟨hl,cur,h1,h2,h3⟩:=h;refine⟨hl,cur,hk _ _ hl h1,h2,fun j hj=>?_⟩;obtain⟨n0,n1,n2,n3,n4,g0,g1,d0,d1,s0,s1⟩:=h3 j hj;exact⟨n0,n1,n2,n3,n4,g0,g1,d0,d1,s0.keep hk,s1.keep hk⟩
theorem ExB.low{w:World}{lo lo' g:Nat}{xs:List Ex}(h:ExB w lo g xs)(hl:lo'<=lo):ExB w lo' g xs:=by
 obtain⟨hl1,cur,h1,h2,h3⟩:=h;refine⟨by omega,cur,h1,h2,fun j hj=>?_⟩;obtain⟨n0,n1,n2,n3,n4,g0,g1,d0,d1,s0,s1⟩:=h3 j hj;exact⟨n0,n1,n2,n3,n4,g0,g1,d0,d1,s0.low hl,s1.low hl⟩
theorem ExB.mild{w w':World}{lo g:Nat}{xs:List Ex}(h:ExB w lo g xs)(hk:Mild w w'):ExB w' lo g xs:=by
 obtain⟨hl,cur,h1,h2,h3⟩:=h;obtain⟨c2,k1,k2,k3⟩:=hk.blk _ _ _ h1;refine⟨hl,c2,k1,k2.trans h2,fun j hj=>?_⟩;obtain⟨n0,n1,n2,n3,n4,g0,g1,d0,d1,s0,s1⟩:=h3 j hj;exact⟨fun a n k q=>n0 a n k ((k3 _ _ _ _).2 q),fun a n k q=>n1 a n k ((k3 _ _ _ _).2 q),fun a n k q=>n2 a n k ((k3 _ _ _ _).2 q),fun a n k q=>n3 a n k ((k3 _ _ _ _).2 q),fun a n k q=>n4 a n k ((k3 _ _ _ _).2 q),g0,g1,(k3 _ _ _ _).1 d0,(k3 _ _ _ _).1 d1,s0.mild hk,s1.mild hk⟩
structure ExY (w:World)(lo:Nat)(a:Option Addr)(xs:List Ex):Prop where
 at_:cZ w lo a xs
 sh:∃g,a=some ⟨g,0,none⟩/\ExB w lo g xs
theorem ExY.above{w w':World}{lo:Nat}{a:Option Addr}{xs:List Ex}(h:ExY w lo a xs)(hb:aZ lo w w'):ExY w' lo a xs:=⟨h.at_.above hb,by obtain⟨g,h1,h2⟩:=h.sh;exact⟨g,h1,h2.keep (bX.above hb)⟩⟩
theorem ExY.low{w:World}{lo lo':Nat}{a:Option Addr}{xs:List Ex}(h:ExY w lo a xs)(hl:lo'<=lo):ExY w lo' a xs:=⟨h.at_.low hl,by obtain⟨g,h1,h2⟩:=h.sh;exact⟨g,h1,h2.low hl⟩⟩
theorem ExY.of{w:World}{lo g:Nat}{xs:List Ex}(h:ExY w lo (some ⟨g,0,none⟩) xs):ExB w lo g xs:=by obtain⟨g2,h1,h2⟩:=h.sh;cases h1;exact h2
def FoB (w:World)(lo g:Nat)(xs:List Fo):Prop:=lo<=g/\∃cur:Array Value,w.heap[g]?=some (.cells cur 163 (0,0))/\cur.size=xs.length*10/\∀j (_:j<xs.length),noSl cur[j*10]?/\noSl cur[j*10+1]?/\noSl cur[j*10+2]?/\noSl cur[j*10+3]?/\noSl cur[j*10+4]?/\noSl cur[j*10+5]?/\noSl cur[j*10+6]?/\noSl cur[j*10+7]?/\noSl cur[j*10+8]?/\noSl cur[j*10+9]?
theorem FoB.keep{w w':World}{lo g:Nat}{xs:List Fo}(h:FoB w lo g xs)(hk:bX lo w w'):FoB w' lo g xs:=by
 obtain⟨hl,cur,h1,h2,h3⟩:=h;refine⟨hl,cur,hk _ _ hl h1,h2,fun j hj=>?_⟩;obtain⟨n0,n1,n2,n3,n4,n5,n6,n7,n8,n9⟩:=h3 j hj;exact⟨n0,n1,n2,n3,n4,n5,n6,n7,n8,n9⟩
theorem FoB.low{w:World}{lo lo' g:Nat}{xs:List Fo}(h:FoB w lo g xs)(hl:lo'<=lo):FoB w lo' g xs:=by
 obtain⟨hl1,cur,h1,h2,h3⟩:=h;refine⟨by omega,cur,h1,h2,fun j hj=>?_⟩;obtain⟨n0,n1,n2,n3,n4,n5,n6,n7,n8,n9⟩:=h3 j hj;exact⟨n0,n1,n2,n3,n4,n5,n6,n7,n8,n9⟩
theorem FoB.mild{w w':World}{lo g:Nat}{xs:List Fo}(h:FoB w lo g xs)(hk:Mild w w'):FoB w' lo g xs:=by
 obtain⟨hl,cur,h1,h2,h3⟩:=h;obtain⟨c2,k1,k2,k3⟩:=hk.blk _ _ _ h1;refine⟨hl,c2,k1,k2.trans h2,fun j hj=>?_⟩;obtain⟨n0,n1,n2,n3,n4,n5,n6,n7,n8,n9⟩:=h3 j hj;exact⟨fun a n k q=>n0 a n k ((k3 _ _ _ _).2 q),fun a n k q=>n1 a n k ((k3 _ _ _ _).2 q),fun a n k q=>n2 a n k ((k3 _ _ _ _).2 q),fun a n k q=>n3 a n k ((k3 _ _ _ _).2 q),fun a n k q=>n4 a n k ((k3 _ _ _ _).2 q),fun a n k q=>n5 a n k ((k3 _ _ _ _).2 q),fun a n k q=>n6 a n k ((k3 _ _ _ _).2 q),fun a n k q=>n7 a n k ((k3 _ _ _ _).2 q),fun a n k q=>n8 a n k ((k3 _ _ _ _).2 q),fun a n k q=>n9 a n k ((k3 _ _ _ _).2 q)⟩
structure FoY (w:World)(lo:Nat)(a:Option Addr)(xs:List Fo):Prop where
 at_:cV w lo a xs
 sh:∃g,a=some ⟨g,0,none⟩/\FoB w lo g xs
theorem FoY.mono{w w':World}{lo:Nat}{a:Option Addr}{xs:List Fo}(h:FoY w lo a xs)(hb:Below w.heap.size w w'):FoY w' lo a xs:=⟨h.at_.mono hb,by obtain⟨g,h1,h2⟩:=h.sh;exact⟨g,h1,h2.keep (bX.below hb)⟩⟩
theorem FoY.above{w w':World}{lo:Nat}{a:Option Addr}{xs:List Fo}(h:FoY w lo a xs)(hb:aZ lo w w'):FoY w' lo a xs:=⟨h.at_.above hb,by obtain⟨g,h1,h2⟩:=h.sh;exact⟨g,h1,h2.keep (bX.above hb)⟩⟩
theorem FoY.of{w:World}{lo g:Nat}{xs:List Fo}(h:FoY w lo (some ⟨g,0,none⟩) xs):FoB w lo g xs:=by obtain⟨g2,h1,h2⟩:=h.sh;cases h1;exact h2
theorem SrB.keeps{w w':World}{lo lo' g:Nat}{xs:List Sr}{ts:List Nat}(h:SrB w lo g xs)(hk:aT lo' ts w w')(hT:212∉ts/\114∉ts/\200∉ts/\101∉ts/\163∉ts):SrB w' lo g xs:=by
 obtain⟨hl,cur,h1,h2,h3⟩:=h;refine⟨hl,cur,hk.cell h1 (hT.1),h2,fun j hj=>?_⟩;obtain⟨n0,n1,n2,n3,n4⟩:=h3 j hj;exact⟨n0,n1,n2,n3,n4⟩
theorem EFB.keeps{w w':World}{lo lo' g:Nat}{xs:List EF}{ts:List Nat}(h:EFB w lo g xs)(hk:aT lo' ts w w')(hT:212∉ts/\114∉ts/\200∉ts/\101∉ts/\163∉ts):EFB w' lo g xs:=by
 obtain⟨hl,cur,h1,h2,h3⟩:=h;refine⟨hl,cur,hk.cell h1 (hT.2.1),h2,fun j hj=>?_⟩;obtain⟨n0,n1,g0,g1,d0,d1,s0,s1⟩:=h3 j hj;exact⟨n0,n1,g0,g1,d0,d1,s0.keeps hk hT,s1.keeps hk hT⟩
theorem ERB.keeps{w w':World}{lo lo' g:Nat}{xs:List ER}{ts:List Nat}(h:ERB w lo g xs)(hk:aT lo' ts w w')(hT:212∉ts/\114∉ts/\200∉ts/\101∉ts/\163∉ts):ERB w' lo g xs:=by
 obtain⟨hl,cur,h1,h2,h3⟩:=h;refine⟨hl,cur,hk.cell h1 (hT.2.2.1),h2,fun j hj=>?_⟩;obtain⟨g0,d0,s0⟩:=h3 j hj;exact⟨g0,d0,s0.keeps hk hT⟩
theorem ExB.keeps{w w':World}{lo lo' g:Nat}{xs:List Ex}{ts:List Nat}(h:ExB w lo g xs)(hk:aT lo' ts w w')(hT:212∉ts/\114∉ts/\200∉ts/\101∉ts/\163∉ts):ExB w' lo g xs:=by
 obtain⟨hl,cur,h1,h2,h3⟩:=h;refine⟨hl,cur,hk.cell h1 (hT.2.2.2.1),h2,fun j hj=>?_⟩;obtain⟨n0,n1,n2,n3,n4,g0,g1,d0,d1,s0,s1⟩:=h3 j hj;exact⟨n0,n1,n2,n3,n4,g0,g1,d0,d1,s0.keeps hk hT,s1.keeps hk hT⟩
theorem FoB.keeps{w w':World}{lo lo' g:Nat}{xs:List Fo}{ts:List Nat}(h:FoB w lo g xs)(hk:aT lo' ts w w')(hT:212∉ts/\114∉ts/\200∉ts/\101∉ts/\163∉ts):FoB w' lo g xs:=by
 obtain⟨hl,cur,h1,h2,h3⟩:=h;refine⟨hl,cur,hk.cell h1 (hT.2.2.2.2),h2,fun j hj=>?_⟩;obtain⟨n0,n1,n2,n3,n4,n5,n6,n7,n8,n9⟩:=h3 j hj;exact⟨n0,n1,n2,n3,n4,n5,n6,n7,n8,n9⟩
theorem exits1_any(w:World):Calls Tryz.prog 200 #[.int .i64 1] w fun e w'=>e=.returned (.bool false)/\w'=w:=by
 go_enter Tryz.func200,Tryz.ntmps200
 go_wp2;go_ret
 exact⟨rfl,rfl⟩
theorem exits2_any(w:World):Calls Tryz.prog 200 #[.int .i64 2] w fun e w'=>e=.returned (.bool false)/\w'=w:=by
 go_enter Tryz.func200,Tryz.ntmps200
 go_wp2;go_ret
 exact⟨rfl,rfl⟩
theorem exits3_any(w:World):Calls Tryz.prog 200 #[.int .i64 3] w fun e w'=>e=.returned (.bool false)/\w'=w:=by
 go_enter Tryz.func200,Tryz.ntmps200
 go_wp2;go_ret
 exact⟨rfl,rfl⟩
theorem exits4_any(w:World):Calls Tryz.prog 200 #[.int .i64 4] w fun e w'=>e=.returned (.bool false)/\w'=w:=by
 go_enter Tryz.func200,Tryz.ntmps200
 go_wp2;go_ret
 exact⟨rfl,rfl⟩
theorem exits5_any(w:World):Calls Tryz.prog 200 #[.int .i64 5] w fun e w'=>e=.returned (.bool true)/\w'=w:=by
 go_enter Tryz.func200,Tryz.ntmps200
 go_wp2;go_ret
 exact⟨rfl,rfl⟩
theorem exits6_any(w:World):Calls Tryz.prog 200 #[.int .i64 6] w fun e w'=>e=.returned (.bool false)/\w'=w:=by
 go_enter Tryz.func200,Tryz.ntmps200
 go_wp2;go_ret
 exact⟨rfl,rfl⟩
theorem exits7_any(w:World):Calls Tryz.prog 200 #[.int .i64 7] w fun e w'=>e=.returned (.bool true)/\w'=w:=by
 go_enter Tryz.func200,Tryz.ntmps200
 go_wp2;go_ret
 exact⟨rfl,rfl⟩
theorem exits8_any(w:World):Calls Tryz.prog 200 #[.int .i64 8] w fun e w'=>e=.returned (.bool true)/\w'=w:=by
 go_enter Tryz.func200,Tryz.ntmps200
 go_wp2;go_ret
 exact⟨rfl,rfl⟩
theorem exits9_any(w:World):Calls Tryz.prog 200 #[.int .i64 9] w fun e w'=>e=.returned (.bool true)/\w'=w:=by
 go_enter Tryz.func200,Tryz.ntmps200
 go_wp2;go_ret
 exact⟨rfl,rfl⟩
theorem exits10_any(w:World):Calls Tryz.prog 200 #[.int .i64 10] w fun e w'=>e=.returned (.bool true)/\w'=w:=by
 go_enter Tryz.func200,Tryz.ntmps200
 go_wp2;go_ret
 exact⟨rfl,rfl⟩
theorem exits11_any(w:World):Calls Tryz.prog 200 #[.int .i64 11] w fun e w'=>e=.returned (.bool false)/\w'=w:=by
 go_enter Tryz.func200,Tryz.ntmps200
 go_wp2;go_ret
 exact⟨rfl,rfl⟩
theorem exits12_any(w:World):Calls Tryz.prog 200 #[.int .i64 12] w fun e w'=>e=.returned (.bool true)/\w'=w:=by
 go_enter Tryz.func200,Tryz.ntmps200
 go_wp2;go_ret
 exact⟨rfl,rfl⟩
theorem exits13_any(w:World):Calls Tryz.prog 200 #[.int .i64 13] w fun e w'=>e=.returned (.bool true)/\w'=w:=by
 go_enter Tryz.func200,Tryz.ntmps200
 go_wp2;go_ret
 exact⟨rfl,rfl⟩
theorem exits14_any(w:World):Calls Tryz.prog 200 #[.int .i64 14] w fun e w'=>e=.returned (.bool true)/\w'=w:=by
 go_enter Tryz.func200,Tryz.ntmps200
 go_wp2;go_ret
 exact⟨rfl,rfl⟩
theorem exits15_any(w:World):Calls Tryz.prog 200 #[.int .i64 15] w fun e w'=>e=.returned (.bool true)/\w'=w:=by
 go_enter Tryz.func200,Tryz.ntmps200
 go_wp2;go_ret
 exact⟨rfl,rfl⟩
theorem exits16_any(w:World):Calls Tryz.prog 200 #[.int .i64 16] w fun e w'=>e=.returned (.bool false)/\w'=w:=by
 go_enter Tryz.func200,Tryz.ntmps200
 go_wp2;go_ret
 exact⟨rfl,rfl⟩
theorem exits17_any(w:World):Calls Tryz.prog 200 #[.int .i64 17] w fun e w'=>e=.returned (.bool true)/\w'=w:=by
 go_enter Tryz.func200,Tryz.ntmps200
 go_wp2;go_ret
 exact⟨rfl,rfl⟩
theorem exits18_any(w:World):Calls Tryz.prog 200 #[.int .i64 18] w fun e w'=>e=.returned (.bool true)/\w'=w:=by
 go_enter Tryz.func200,Tryz.ntmps200
 go_wp2;go_ret
 exact⟨rfl,rfl⟩
theorem exits19_any(w:World):Calls Tryz.prog 200 #[.int .i64 19] w fun e w'=>e=.returned (.bool true)/\w'=w:=by
 go_enter Tryz.func200,Tryz.ntmps200
 go_wp2;go_ret
 exact⟨rfl,rfl⟩
theorem exits20_any(w:World):Calls Tryz.prog 200 #[.int .i64 20] w fun e w'=>e=.returned (.bool true)/\w'=w:=by
 go_enter Tryz.func200,Tryz.ntmps200
 go_wp2;go_ret
 exact⟨rfl,rfl⟩
theorem exits21_any(w:World):Calls Tryz.prog 200 #[.int .i64 21] w fun e w'=>e=.returned (.bool false)/\w'=w:=by
 go_enter Tryz.func200,Tryz.ntmps200
 go_wp2;go_ret
 exact⟨rfl,rfl⟩
theorem exits22_any(w:World):Calls Tryz.prog 200 #[.int .i64 22] w fun e w'=>e=.returned (.bool true)/\w'=w:=by
 go_enter Tryz.func200,Tryz.ntmps200
 go_wp2;go_ret
 exact⟨rfl,rfl⟩
theorem exits23_any(w:World):Calls Tryz.prog 200 #[.int .i64 23] w fun e w'=>e=.returned (.bool false)/\w'=w:=by
 go_enter Tryz.func200,Tryz.ntmps200
 go_wp2;go_ret
 exact⟨rfl,rfl⟩
theorem exits24_any(w:World):Calls Tryz.prog 200 #[.int .i64 24] w fun e w'=>e=.returned (.bool true)/\w'=w:=by
 go_enter Tryz.func200,Tryz.ntmps200
 go_wp2;go_ret
 exact⟨rfl,rfl⟩
theorem exits25_any(w:World):Calls Tryz.prog 200 #[.int .i64 25] w fun e w'=>e=.returned (.bool true)/\w'=w:=by
 go_enter Tryz.func200,Tryz.ntmps200
 go_wp2;go_ret
 exact⟨rfl,rfl⟩
theorem exits26_any(w:World):Calls Tryz.prog 200 #[.int .i64 26] w fun e w'=>e=.returned (.bool true)/\w'=w:=by
 go_enter Tryz.func200,Tryz.ntmps200
 go_wp2;go_ret
 exact⟨rfl,rfl⟩
theorem exits27_any(w:World):Calls Tryz.prog 200 #[.int .i64 27] w fun e w'=>e=.returned (.bool false)/\w'=w:=by
 go_enter Tryz.func200,Tryz.ntmps200
 go_wp2;go_ret
 exact⟨rfl,rfl⟩
theorem exits28_any(w:World):Calls Tryz.prog 200 #[.int .i64 28] w fun e w'=>e=.returned (.bool true)/\w'=w:=by
 go_enter Tryz.func200,Tryz.ntmps200
 go_wp2;go_ret
 exact⟨rfl,rfl⟩
theorem exits29_any(w:World):Calls Tryz.prog 200 #[.int .i64 29] w fun e w'=>e=.returned (.bool true)/\w'=w:=by
 go_enter Tryz.func200,Tryz.ntmps200
 go_wp2;go_ret
 exact⟨rfl,rfl⟩
theorem exitsNo_any(op:Int)(w:World)(h:op<1\/29<op):Calls Tryz.prog 200 #[.int .i64 op] w fun e w'=>e=.returned (.bool false)/\w'=w:=by
 have h5:(op == 5)=false:=by simp;omega
 have h7:(op == 7)=false:=by simp;omega
 have h8:(op == 8)=false:=by simp;omega
 have h9:(op == 9)=false:=by simp;omega
 have h10:(op == 10)=false:=by simp;omega
 have h12:(op == 12)=false:=by simp;omega
 have h13:(op == 13)=false:=by simp;omega
 have h14:(op == 14)=false:=by simp;omega
 have h15:(op == 15)=false:=by simp;omega
 have h17:(op == 17)=false:=by simp;omega
 have h18:(op == 18)=false:=by simp;omega
 have h19:(op == 19)=false:=by simp;omega
 have h20:(op == 20)=false:=by simp;omega
 have h22:(op == 22)=false:=by simp;omega
 have h24:(op == 24)=false:=by simp;omega
 have h25:(op == 25)=false:=by simp;omega
 have h26:(op == 26)=false:=by simp;omega
 have h28:(op == 28)=false:=by simp;omega
 have h29:(op == 29)=false:=by simp;omega
 go_enter Tryz.func200,Tryz.ntmps200
 go_wp2;go_ret
 exact⟨rfl,rfl⟩
end Go.Proofs.YtbjmgmmekmfjhaaGreatDoor
namespace Go.Proofs.YtbjmgmmekmfjhaaGreatDoor
theorem joined_of{P:Program}{f:FuncId}{fn:Func}{s:ChangeSpec}{c:OpenClaim}
  (h0:(c.wf (OpenSpec.ofChange s))=true)
  (h1:(laidOutB P)=true)
  (h2:(mapsRowed P)=true)
  (h3:(fn.params.all (P.readableRec ·))=true)
  (h4:(namedTie P c.named s.vars)=true)
  (h5:((c.stops == []))=true)
  (h6:((P.stops == []))=true)
  (h7:((c.knobs == []))=true)
  (h8:((P.stopKnobs == []))=true)
  (h9:((c.inPlace == P.inPlace f))=true)
  (h10:((c.unfollowed == P.unfollowed f))=true)
  (h11:((c.recurses == P.recurses f))=true)
  (h12:((c.named == P.varsNamed f))=true)
  (h13:((c.maps == (fn.params.toList++s.plain.varTypes P).any (P.mapsRec ·)))=true)
  (h14:((c.ifaces == (fn.params.toList++s.plain.varTypes P).any (P.ifacesRec ·)))=true)
  (h15:((c.mapsOut == P.mapsAmong fn.resultTypes.toList))=true)
  (h16:((c.loops == (fn.params.toList++s.plain.varTypes P).any (P.loopsFrom ·)))=true)
  (h17:((c.wideKeys == (fn.params.toList++s.plain.varTypes P++fn.resultTypes.toList).any (P.wideKeysFrom ·)))=true)
  (h18:(s.vars.all (P.varReadable ·))=true)
  (h19:(fn.resultTypes.all (fun t=>P.readableRec t && decide (t<P.types.size)))=true)
  (h20:((c.ifacesOut == fn.resultTypes.toList.any (P.ifacesRec ·)))=true)
  (h21:((c.loopsOut == fn.resultTypes.toList.any (P.loopsFrom ·)))=true)
  (h22:((c.plainKeys == P.plainKeys))=true)
  (h23:(c.shortTexts.isNone)=true)
  (h24:(P.stopsHeard)=true)
  (h25:(P.mayEnter)=true)
  (h26:((c.lifted == P.liftsFinal))=true)
  (h27:((P.make == some c.make))=true)
  (h28:c.kinds=[]) (h28b:c.domain.isEmpty=true)
  (h29:((c.pinned == c.pinnedBy))=true)
  (h30:((c.veiled == (fn.params.toList++s.plain.varTypes P++fn.resultTypes.toList).any (P.veiledRec ·)))=true)
  (h31:(c.veiledFits P fn.params.toList (fn.params.toList++s.plain.varTypes P++fn.resultTypes.toList))=true):joinedFacts P f fn s c=true:=by
 unfold joinedFacts;rw[h0,h1,h2,h3,h4,h5,h6,h7,h8,h9,h10,h11,h12,h13,h14,h15,h16,h17,h18,h19,h20,h21,h22,h23,h24,h25,h26,h27,h29,h30,h31,h28,h28b];rfl
end Go.Proofs.YtbjmgmmekmfjhaaGreatDoor
