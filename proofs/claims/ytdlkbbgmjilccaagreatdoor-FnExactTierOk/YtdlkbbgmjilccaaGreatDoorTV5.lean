/- TV5 -/
import Derived.Test.YtdlkbbgmjilccaaGreatDoorTV1
import Derived.Deep.RegionHeld3
set_option maxHeartbeats 32000000
namespace Go.Proofs.YtdlkbbgmjilccaaGreatDoor
open Go.RowKit
theorem argBounds_is(a1 a2 a3:Option Addr)(nt c1 nf c2 nc c3:Nat)(p l op lo hi:Int)(w:World)(h:cB nt nf l nc op=(lo,hi)) :
  Calls Tryz.prog 202 #[.agg #[.slice a1 nt c1,.slice a2 nf c2],.agg #[.int .i64 p,.int .i64 l,.slice a3 nc c3],.int .i64 op] w fun e w'=>e=.returned (.tuple #[.int .i64 lo,.int .i64 hi])/\Below w.heap.size w w':=by
 have:=argBounds_any a1 a2 a3 nt c1 nf c2 nc c3 p l op w;rwa [h] at this
theorem iInsOk_any(a1 a2:Option Addr)(nt c1 c2:Nat)(fs:List Fn)(f:Nat)(op a:Int)(w:World)(hf:f<fs.length)(hm:FnsAt w 0 a2 fs) :
  Calls Tryz.prog 177 #[.agg #[.slice a1 nt c1,.slice a2 fs.length c2],.int .i64 f,.agg #[.int .i64 op,.int .i64 a]] w fun e w'=>e=.returned (.bool (insB nt fs.length fs[f].locals fs[f].code.length op a))/\Below w.heap.size w w':=by
 obtain⟨b,off,ca,cc,rfl,-,d1,d2,d3,-⟩:=hm f hf;have hins:=insB_bounds nt fs.length fs[f].locals fs[f].code.length op a;generalize hr:insB nt fs.length fs[f].locals fs[f].code.length op a=r at *
 obtain⟨lo,hi,hlh⟩:∃lo hi,cB nt fs.length fs[f].locals fs[f].code.length op=(lo,hi):=⟨_,_,rfl⟩;rw[hlh] at hins;dsimp only at hins
 have HL:Hid (cB nt fs.length fs[f].locals fs[f].code.length op=(lo,hi)):=hlh;have HR:Hid ((decide (lo<=a) && decide (a<hi))=r):=hins;clear hlh hins hr;have hbA:Below w.heap.size w ((w.alloc (.cells #[.slice a1 nt c1,.slice (some ⟨b,off,none⟩) fs.length c2] 42)).alloc (.cells #[.int .i64 op,.int .i64 a] 153)):=(gM.alloc nL _).alloc (by simp) _;have n1:=World.block_lt_of_cell? _ _ d1;simp only at n1
 rcases (show (lo<=a/\a<hi)\/(lo<=a/\¬a<hi)\/¬lo<=a by omega) with ⟨k1,k2⟩ | ⟨k1,k2⟩ | k1
 all_goals
  go_enter Tryz.func177,Tryz.ntmps177
  go_wp2
  go_region_held3 (fun w'=>w'.cell? ⟨w.heap.size,0,none⟩=some (.slice a1 nt c1)/\w'.cell? ⟨w.heap.size,1,none⟩=some (.slice (some ⟨b,off,none⟩) fs.length c2)/\w'.cell? ⟨w.heap.size+1,0,none⟩=some (.int .i64 op)/\w'.cell? ⟨w.heap.size+1,1,none⟩=some (.int .i64 a)/\w'.cell? ⟨b,off+f*3,none⟩=some (.int .i64 fs[f].params)/\w'.cell? ⟨b,off+f*3+1,none⟩=some (.int .i64 fs[f].locals)/\w'.cell? ⟨b,off+f*3+2,none⟩=some (.slice ca fs[f].code.length cc))
   (first | go_keep | (refine⟨cell_later hb1 ?_,cell_later hb1 ?_,cell_later hb1 ?_,cell_later hb1 ?_,cell_later hb1 ?_,cell_later hb1 ?_,cell_later hb1 ?_⟩<;>go_keep))
   (first | (go_at_call 202;refine (argBounds_is _ _ _ _ _ _ _ _ _ _ _ _ lo hi _ HL.out).mono ?_;rintro e w1 ⟨rfl,hb1⟩))
  go_wp2;go_ret
  exact⟨aj (by rw[<-HR.out,Bool.eq_iff_iff];simp;omega),hbA.drew.trans (hb1.mono (by simp;omega))⟩
theorem sInsOk_any(a1 a2:Option Addr)(nt c1 c2:Nat)(fs:List Fn)(f:Nat)(op a:Int)(w:World)(hnt:nt<=1048576)(hnf:fs.length<=1048576)(hf:f<fs.length)(hm:FnsAt w 0 a2 fs)(hl0:-1000<=fs[f].locals)(hl1:fs[f].locals<=1000)(hc:fs[f].code.length<=1048576) :
  Calls Tryz.prog 128 #[.agg #[.slice a1 nt c1,.slice a2 fs.length c2],.int .i64 f,.agg #[.int .i64 op,.int .i64 a]] w fun e w'=>e=.returned (.bool (insB nt fs.length fs[f].locals fs[f].code.length op a))/\Below w.heap.size w w':=by
 obtain⟨b,off,ca,cc,rfl,-,d1,d2,d3,-⟩:=hm f hf;have n1:=World.block_lt_of_cell? _ _ d1;simp only at n1
 have hbA:Below w.heap.size w ((w.alloc (.cells #[.slice a1 nt c1,.slice (some ⟨b,off,none⟩) fs.length c2] 42)).alloc (.cells #[.int .i64 op,.int .i64 a] 153)):=(gM.alloc nL _).alloc (by simp) _;have hf':(f:Int)<=(fs.length:Int)-1:=by omega
 generalize hloc:fs[f].locals=loc at *
 clear hloc;rcases dC op with rfl | rfl | rfl | rfl | rfl | rfl | rfl | rfl | rfl | rfl | rfl | rfl | rfl | rfl | rfl | rfl | rfl | rfl | rfl | rfl | rfl | rfl | rfl | rfl | rfl | rfl | h | h
 case inr.inr.inr.inr.inr.inr.inr.inr.inr.inr.inr.inr.inr.inr.inr.inr.inr.inr.inr.inr.inr.inr.inr.inr.inr.inr.inl=>
  have e1:insB nt fs.length loc fs[f].code.length op a=false:=insB_out (Or.inl h);rw[e1];clear e1;go_enter Tryz.func128,Tryz.ntmps128
  go_wp2_with (go_at_call 45;refine (aB _ _ _ _).mono ?_;rintro e w1 ⟨rfl,rfl⟩)
  go_ret
  exact⟨rfl,hbA⟩
 case inr.inr.inr.inr.inr.inr.inr.inr.inr.inr.inr.inr.inr.inr.inr.inr.inr.inr.inr.inr.inr.inr.inr.inr.inr.inr.inr=>
  have e1:insB nt fs.length loc fs[f].code.length op a=false:=insB_out (Or.inr h);rw[e1];clear e1;go_enter Tryz.func128,Tryz.ntmps128
  go_wp2_with (go_at_call 45;refine (aB _ _ _ _).mono ?_;rintro e w1 ⟨rfl,rfl⟩)
  go_ret
  exact⟨rfl,hbA⟩
 all_goals
  go_enter Tryz.func128,Tryz.ntmps128
  go_wp2_with (go_at_call 45;refine (aB _ _ _ _).mono ?_;rintro e w1 ⟨rfl,rfl⟩)
  try go_quiet ((go_at_call 45;exact Calls.quiet_of_same (aB _ _ _ _)))
  try go_wp2
  go_ret
  refine⟨aj (by rw[Bool.eq_iff_iff];first | (simp[insB];done) | (simp[insB];omega)),?_⟩
  first | exact hbA | exact aC hbA _
theorem bt{w w':World}(h:Below w.drew.heap.size w.drew w'):Below w.heap.size w w':=⟨h.os,h.tape,h.output,h.size,h.block⟩
theorem sModuleOk_any(a1 a2:Option Addr)(ts:List ByteArray)(fs:List Fn)(c1 c2:Nat)(w:World)(hs:b9 ts fs)(hm:aT w 0 a1 ts)(hf:FnsAt w 0 a2 fs) :
  Calls Tryz.prog 82 #[.agg #[.slice a1 ts.length c1,.slice a2 fs.length c2]] w fun e w'=>e=.returned (.bool (modB ts fs))/\Below w.heap.size w w':=by
 have s1:=hs.texts;have s2:=hs.funcs;by_cases hh:1<=fs.length/\fs.length<=12/\ts.length<=20
 ·have HF:Hid (modB ts fs=(ts.all bg && fs.all fun f=>fnB ts.length fs.length f)):=modB_all hh;have g1:(1:Int)<=(fs.length:Int):=by omega
  have g2:(fs.length:Int)<=12:=by omega
  have g3:(ts.length:Int)<=20:=by omega
  clear hh;have hbA:Below w.heap.size w (w.alloc (.cells #[.slice a1 ts.length c1,.slice a2 fs.length c2] 42)):=gM.alloc nL _;have hM0:=ah w #[.slice a1 ts.length c1,.slice a2 fs.length c2] 42;go_enter Tryz.func82,Tryz.ntmps82
  go_wp2_with (go_at_call 45;refine (aB _ _ _ _).mono ?_;rintro e w1 ⟨rfl,rfl⟩)
  go_loop [3] (fun i=>∃(k:Nat),k<=ts.length/\i=.int .i64 k/\(ts.take k).all bg=true) (fun i=>ts.length-(intOf i).toNat)
  case atStart=>exact⟨0,by omega,rfl,by simp⟩
  case round=>
   obtain⟨k,hk,rfl,hall⟩:=hrel;by_cases hlt:k<ts.length
   ·obtain⟨b,off,rfl,-,e1⟩:=hm k hlt;have e1':=cell_later hbA e1;have hts:=hs.text ts[k] (n_l hlt);clear e1 hM0;by_cases hi:bg ts[k]=true
    ·go_wp2_with (go_at_call 88;refine (ch _ _ hts).mono ?_;rintro e w' ⟨rfl,rfl⟩)
     go_round
     case rel=>exact⟨k+1,by omega,by go_num,bE hlt hall hi⟩
     case measure=>simp[intOf];omega
    ·have hi':bg ts[k]=false:=by simpa using hi
     have HN:Hid (modB ts fs=false):=by rw[HF.out,cd hlt hi'];rfl
     clear hi;go_wp2_with (go_at_call 88;refine (ch _ _ hts).mono ?_;rintro e w' ⟨rfl,rfl⟩)
     go_ret
     exact⟨aj HN.out.symm,hbA⟩
   ·have hall2:ts.all bg=true:=bL (by omega) hall;have HF2:Hid (modB ts fs=fs.all fun f=>fnB ts.length fs.length f):=by rw[HF.out,hall2];rfl
    clear hall hall2;go_wp2;go_loopw [4] (fun i wr=>∃(k:Nat),k<=fs.length/\i=.int .i64 k/\(fs.take k).all (fun f=>fnB ts.length fs.length f)=true/\wr.heap[w.heap.size]?=some (.cells #[.slice a1 ts.length c1,.slice a2 fs.length c2] 42 (0,0))/\Below w.heap.size w wr) (fun i _=>fs.length-(intOf i).toNat)
    case atStart=>exact⟨0,by omega,rfl,by simp,hM0,hbA⟩
    case round=>
     obtain⟨q,hq,rfl,hallf,hM,hb⟩:=hrel;obtain⟨wo,rfl⟩:∃wo,wo=wr:=⟨_,rfl⟩;clear hM0;have x1:=aa hM;by_cases hlq:q<fs.length
     ·have hcq:=hs.code fs[q] (n_l hlq);obtain⟨b,off,ca,cc,rfl,-,d1,d2,d3,d4⟩:=hf q hlq;have d1':=cell_later hb d1;have d2':=cell_later hb d2;have d3':=cell_later hb d3;have hsz:=aq hM;clear d1 d2 d3;by_cases hq6:0<=fs[q].params/\fs[q].params<=6/\fs[q].params<=fs[q].locals/\fs[q].locals<=12/\1<=fs[q].code.length/\fs[q].code.length<=120
      ·have HQ:Hid (fnB ts.length fs.length fs[q]=fs[q].code.all fun x=>insB ts.length fs.length fs[q].locals fs[q].code.length x.1 x.2):=fnB_all hq6;obtain⟨p1,p2,p3,p4,p5,p6⟩:=hq6;have p5':(1:Int)<=(fs[q].code.length:Int):=by omega
       have p6':(fs[q].code.length:Int)<=120:=by omega
       go_wp2_with (go_at_call 45;refine (aB _ _ _ _).mono ?_;rintro e w1 ⟨rfl,rfl⟩)
       have hX0:=ah wo #[.int .i64 fs[q].params,.int .i64 fs[q].locals,.slice ca fs[q].code.length cc] 107;have hM1:=al hM (.cells #[.int .i64 fs[q].params,.int .i64 fs[q].locals,.slice ca fs[q].code.length cc] 107);have hb1:Below w.heap.size w (wo.alloc (.cells #[.int .i64 fs[q].params,.int .i64 fs[q].locals,.slice ca fs[q].code.length cc] 107)):=hb.alloc (by omega) _;clear d1' d2' d3' x1 hM;go_loopw [6] (fun i ws=>∃(j:Nat),j<=fs[q].code.length/\i=.int .i64 j/\(fs[q].code.take j).all (fun x=>insB ts.length fs.length fs[q].locals fs[q].code.length x.1 x.2)=true/\ws.heap[w.heap.size]?=some (.cells #[.slice a1 ts.length c1,.slice (some ⟨b,off,none⟩) fs.length c2] 42 (0,0))/\ws.heap[wo.heap.size]?=some (.cells #[.int .i64 fs[q].params,.int .i64 fs[q].locals,.slice ca fs[q].code.length cc] 107 (0,0))/\Below w.heap.size w ws) (fun i _=>fs[q].code.length-(intOf i).toNat)
       case atStart=>exact⟨0,by omega,rfl,by simp,hM1,hX0,hb1⟩
       case round=>
        obtain⟨j,hj,rfl,hallc,hM2,hX,hb2⟩:=hrel;clear hX0 hM1 hb1;have y1:=aa hM2;have y2:=aa hX;by_cases hlj:j<fs[q].code.length
        ·obtain⟨cb,co,rfl,-,e1,e2⟩:=d4 j hlj;have e1':=cell_later hb2 e1;have e2':=cell_later hb2 e2;clear e1 e2;by_cases hi:insB ts.length fs.length fs[q].locals fs[q].code.length fs[q].code[j].1 fs[q].code[j].2=true
         ·have hi2:(!insB ts.length fs.length fs[q].locals fs[q].code.length fs[q].code[j].1 fs[q].code[j].2)=false:=by rw[hi];rfl
          go_wp2
          go_region_held3 (fun w'=>w'.heap[w.heap.size]?=some (.cells #[.slice a1 ts.length c1,.slice (some ⟨b,off,none⟩) fs.length c2] 42 (0,0))/\w'.heap[wo.heap.size]?=some (.cells #[.int .i64 fs[q].params,.int .i64 fs[q].locals,.slice (some ⟨cb,co,none⟩) fs[q].code.length cc] 107 (0,0))/\w'.cell? ⟨w.heap.size,0,none⟩=some (.slice a1 ts.length c1)/\w'.cell? ⟨w.heap.size,1,none⟩=some (.slice (some ⟨b,off,none⟩) fs.length c2)/\w'.cell? ⟨wo.heap.size,2,none⟩=some (.slice (some ⟨cb,co,none⟩) fs[q].code.length cc)/\w'.cell? ⟨cb,co+j*2,none⟩=some (.int .i64 fs[q].code[j].1)/\w'.cell? ⟨cb,co+j*2+1,none⟩=some (.int .i64 fs[q].code[j].2))
           (first | exact⟨hM2,hX,(y1 0).trans rfl,(y1 1).trans rfl,(y2 2).trans rfl,e1',e2'⟩ | exact⟨ab hM2 hb4,ab hX hb4,ckb hM2 hb4 rfl,ckb hM2 hb4 rfl,ckb hX hb4 rfl,cell_later hb4 e1',cell_later hb4 e2'⟩)
           (first | (go_at_call 128;refine (sInsOk_any _ _ _ _ _ fs q _ _ _ (by exact s1) (by exact s2) hlq (by exact hf.mono hb2.drew) (by omega) (by omega) (by omega)).mono ?_;rintro e w4 ⟨rfl,hb4d⟩;have hb4:=bt hb4d))
          have hM3:=ab hM2 hb4;have hX3:=ab hX hb4;have hb5:Below w.heap.size w w4:=hb2.trans (hb4.mono hb2.size);clear y1 y2 e1' e2' hb4 hb4d;go_wp2;go_roundw
          case rel=>exact⟨j+1,by omega,by go_num,bE hlj hallc hi,hM3,hX3,hb5⟩
          case measure=>simp[intOf];omega
         ·have hi':insB ts.length fs.length fs[q].locals fs[q].code.length fs[q].code[j].1 fs[q].code[j].2=false:=by simpa using hi
          have HN:Hid (modB ts fs=false):=by
           rw[HF2.out];refine cd (p:=fun f=>fnB ts.length fs.length f) hlq ?_;show fnB ts.length fs.length fs[q]=false
           rw[HQ.out];exact cd (p:=fun x=>insB ts.length fs.length fs[q].locals fs[q].code.length x.1 x.2) hlj hi'
          have hi2:(!insB ts.length fs.length fs[q].locals fs[q].code.length fs[q].code[j].1 fs[q].code[j].2)=true:=by rw[hi'];rfl
          clear hi;go_wp2
          go_region_held3 (fun w'=>w'.heap[w.heap.size]?=some (.cells #[.slice a1 ts.length c1,.slice (some ⟨b,off,none⟩) fs.length c2] 42 (0,0))/\w'.heap[wo.heap.size]?=some (.cells #[.int .i64 fs[q].params,.int .i64 fs[q].locals,.slice (some ⟨cb,co,none⟩) fs[q].code.length cc] 107 (0,0))/\w'.cell? ⟨w.heap.size,0,none⟩=some (.slice a1 ts.length c1)/\w'.cell? ⟨w.heap.size,1,none⟩=some (.slice (some ⟨b,off,none⟩) fs.length c2)/\w'.cell? ⟨wo.heap.size,2,none⟩=some (.slice (some ⟨cb,co,none⟩) fs[q].code.length cc)/\w'.cell? ⟨cb,co+j*2,none⟩=some (.int .i64 fs[q].code[j].1)/\w'.cell? ⟨cb,co+j*2+1,none⟩=some (.int .i64 fs[q].code[j].2))
           (first | exact⟨hM2,hX,(y1 0).trans rfl,(y1 1).trans rfl,(y2 2).trans rfl,e1',e2'⟩ | exact⟨ab hM2 hb4,ab hX hb4,ckb hM2 hb4 rfl,ckb hM2 hb4 rfl,ckb hX hb4 rfl,cell_later hb4 e1',cell_later hb4 e2'⟩)
           (first | (go_at_call 128;refine (sInsOk_any _ _ _ _ _ fs q _ _ _ (by exact s1) (by exact s2) hlq (by exact hf.mono hb2.drew) (by omega) (by omega) (by omega)).mono ?_;rintro e w4 ⟨rfl,hb4d⟩;have hb4:=bt hb4d))
          have hb5:Below w.heap.size w w4:=hb2.trans (hb4.mono hb2.size);clear y1 y2 e1' e2' hb4 hb4d;go_wp2;go_ret
          exact⟨aj HN.out.symm,hb5⟩
        ·have hallc2:=bL (by omega) hallc;have HA:Hid (fnB ts.length fs.length fs[q]=true):=by rw[HQ.out];exact hallc2
         clear hallc hallc2;go_wp2;go_roundw
         case rel=>exact⟨q+1,by omega,by go_num,bE (p:=fun f=>fnB ts.length fs.length f) hlq hallf HA.out,hM2,hb2⟩
         case measure=>simp[intOf];omega
      ·have HQ:Hid (fnB ts.length fs.length fs[q]=false):=fnB_no hq6;have HN:Hid (modB ts fs=false):=by rw[HF2.out];exact cd (p:=fun f=>fnB ts.length fs.length f) hlq HQ.out
       rcases (show fs[q].params<0\/(0<=fs[q].params/\6<fs[q].params)\/(0<=fs[q].params/\fs[q].params<=6/\fs[q].locals<fs[q].params)\/(0<=fs[q].params/\fs[q].params<=6/\fs[q].params<=fs[q].locals/\12<fs[q].locals) \/
        (0<=fs[q].params/\fs[q].params<=6/\fs[q].params<=fs[q].locals/\fs[q].locals<=12/\decide ((1:Int)<=(fs[q].code.length:Int))=false)\/(0<=fs[q].params/\fs[q].params<=6/\fs[q].params<=fs[q].locals/\fs[q].locals<=12/\1<=(fs[q].code.length:Int)/\decide ((fs[q].code.length:Int)<=120)=false) by simp only[decide_eq_false_iff_not];omega) with h | ⟨h,h2⟩ | ⟨h,h2,h3⟩ | ⟨h,h2,h3,h4⟩ | ⟨h,h2,h3,h4,h5⟩ | ⟨h,h2,h3,h4,h5,h6⟩
       all_goals
        clear hq6;go_wp2_with (go_at_call 45;refine (aB _ _ _ _).mono ?_;rintro e w1 ⟨rfl,rfl⟩)
        go_ret
        exact⟨aj HN.out.symm,hb.alloc (by omega) _⟩
     ·go_wp2;go_ret
      exact⟨aj (by rw[HF2.out];exact (bL (by omega) hallf).symm),hb⟩
 ·have HF:Hid (modB ts fs=false):=modB_no hh;rcases (show (fs.length:Int)<1\/(1<=(fs.length:Int)/\12<(fs.length:Int))\/(1<=(fs.length:Int)/\(fs.length:Int)<=12/\20<(ts.length:Int)) by omega) with h | ⟨h,h2⟩ | ⟨h,h2,h3⟩
  all_goals
   clear hh;go_enter Tryz.func82,Tryz.ntmps82
   go_wp2_with (go_at_call 45;refine (aB _ _ _ _).mono ?_;rintro e w1 ⟨rfl,rfl⟩)
   go_ret
   exact⟨aj HF.out.symm,gM.alloc nL _⟩
theorem funcOk_any(a1 a2:Option Addr)(nt c1 c2:Nat)(fs:List Fn)(f:Nat)(w:World)(hf:f<fs.length)(hm:FnsAt w 0 a2 fs)(hck:fs[f].code.length<=1048576) :
  Calls Tryz.prog 145 #[.agg #[.slice a1 nt c1,.slice a2 fs.length c2],.int .i64 f] w fun e w'=>e=.returned (.bool (fnB nt fs.length fs[f]))/\Below w.heap.size w w':=by
 obtain⟨b,off,ca,cc,rfl,-,d1,d2,d3,d4⟩:=hm f hf;have n1:=World.block_lt_of_cell? _ _ d1;simp only at n1
 by_cases hh:0<=fs[f].params/\fs[f].params<=6/\fs[f].params<=fs[f].locals/\fs[f].locals<=12/\1<=fs[f].code.length/\fs[f].code.length<=120
 ·have HF:Hid (fnB nt fs.length fs[f]=fs[f].code.all fun x=>insB nt fs.length fs[f].locals fs[f].code.length x.1 x.2):=fnB_all hh;obtain⟨g1,g2,g3,g4,g5,g6⟩:=hh;go_enter Tryz.func145,Tryz.ntmps145
  go_wp2;have hM0:=al (ah w #[.slice a1 nt c1,.slice (some ⟨b,off,none⟩) fs.length c2] 42) (.cells #[.int .i64 fs[f].params,.int .i64 fs[f].locals,.slice ca fs[f].code.length cc] 107);have hbA:Below w.heap.size w ((w.alloc (.cells #[.slice a1 nt c1,.slice (some ⟨b,off,none⟩) fs.length c2] 42)).alloc (.cells #[.int .i64 fs[f].params,.int .i64 fs[f].locals,.slice ca fs[f].code.length cc] 107)):=(gM.alloc nL _).alloc (by simp) _;clear d1 d2 d3;go_loopw [46] (fun i wr=>∃(k:Nat),k<=fs[f].code.length/\i=.int .i64 k/\(fs[f].code.take k).all (fun x=>insB nt fs.length fs[f].locals fs[f].code.length x.1 x.2)=true/\wr.heap[w.heap.size]?=some (.cells #[.slice a1 nt c1,.slice (some ⟨b,off,none⟩) fs.length c2] 42 (0,0))/\Below w.heap.size w wr) (fun i _=>fs[f].code.length-(intOf i).toNat)
  case atStart=>exact⟨0,by omega,rfl,by simp,hM0,hbA⟩
  case round=>
   obtain⟨k,hk,rfl,hall,hM,hb⟩:=hrel;clear hM0 hbA;by_cases hlt:k<fs[f].code.length
   ·obtain⟨cb,co,rfl,-,e1,e2⟩:=d4 k hlt;have e1':=cell_later hb e1;have e2':=cell_later hb e2;have x1:=aa hM;have hsz:=aq hM;clear e1 e2;go_wp2_with fail
    have hbx:Below w.heap.size w (wr.alloc (.cells #[.int .i64 fs[f].code[k].1,.int .i64 fs[f].code[k].2] 153)):=hb.alloc (by omega) _;refine (iInsOk_any a1 _ nt c1 c2 fs f _ _ _ hf (hm.mono hbx)).mono ?_;rintro e w2 ⟨rfl,hb2⟩;have hM2:=ab (al hM (.cells #[.int .i64 fs[f].code[k].1,.int .i64 fs[f].code[k].2] 153)) hb2;have hb3:Below w.heap.size w w2:=hbx.trans (hb2.mono (by simp;omega));clear x1 e1' e2' hbx hb2;by_cases hi:insB nt fs.length fs[f].locals fs[f].code.length fs[f].code[k].1 fs[f].code[k].2=true
    ·go_wp2;go_roundw
     case rel=>exact⟨k+1,by omega,by go_num,bE hlt hall hi,hM2,hb3⟩
     case measure=>simp[intOf];omega
    ·have hi':insB nt fs.length fs[f].locals fs[f].code.length fs[f].code[k].1 fs[f].code[k].2=false:=by simpa using hi
     have hno:fnB nt fs.length fs[f]=false:=by rw[HF.out];exact cd (p:=fun x=>insB nt fs.length fs[f].locals fs[f].code.length x.1 x.2) hlt hi'
     have HN:Hid (fnB nt fs.length fs[f]=false):=hno;clear hno hi;go_wp2;go_ret
     exact⟨aj HN.out.symm,hb3⟩
   ·go_wp2;go_ret
    exact⟨aj (by rw[HF.out];exact (bL (by omega) hall).symm),hb⟩
 ·have HF:Hid (fnB nt fs.length fs[f]=false):=fnB_no hh
  rcases (show fs[f].params<0\/(0<=fs[f].params/\6<fs[f].params)\/(0<=fs[f].params/\fs[f].params<=6/\fs[f].locals<fs[f].params)\/(0<=fs[f].params/\fs[f].params<=6/\fs[f].params<=fs[f].locals/\12<fs[f].locals) \/
   (0<=fs[f].params/\fs[f].params<=6/\fs[f].params<=fs[f].locals/\fs[f].locals<=12/\(fs[f].code.length:Int)<1)\/(0<=fs[f].params/\fs[f].params<=6/\fs[f].params<=fs[f].locals/\fs[f].locals<=12/\1<=(fs[f].code.length:Int)/\120<(fs[f].code.length:Int)) by omega) with h | ⟨h,h2⟩ | ⟨h,h2,h3⟩ | ⟨h,h2,h3,h4⟩ | ⟨h,h2,h3,h4,h5⟩ | ⟨h,h2,h3,h4,h5,h6⟩
  all_goals
   clear hh;go_enter Tryz.func145,Tryz.ntmps145
   go_wp2;go_ret
   exact⟨aj HF.out.symm,(gM.alloc nL _).alloc (by simp) _⟩
end Go.Proofs.YtdlkbbgmjilccaaGreatDoor
