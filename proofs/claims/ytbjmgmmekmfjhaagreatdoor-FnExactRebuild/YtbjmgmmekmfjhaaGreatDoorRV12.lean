/- RV12 -/
import Derived.Test.YtbjmgmmekmfjhaaGreatDoorRV10
import Derived.Test.YtbjmgmmekmfjhaaGreatDoorRV11
import Derived.Test.YtbjmgmmekmfjhaaGreatDoorRV7
import Derived.WalkMore
set_option maxHeartbeats 32000000
set_option maxRecDepth 100000
namespace Go.Proofs.YtbjmgmmekmfjhaaGreatDoor
open Go.RowKit
theorem cN.no{fs:List Fn}{op a z:Int}{e:Ending}(h:cN fs op a z e)(hc:z<(aM fs op a).1\/16<z-(aM fs op a).1+(aM fs op a).2):∃q,e=.returned (.tuple #[.int .i64 q,.bool false]):=by
 unfold cN at h;rwa [if_pos hc] at h
theorem cN.yes{fs:List Fn}{op a z:Int}{e:Ending}(h:cN fs op a z e)(hc:¬(z<(aM fs op a).1\/16<z-(aM fs op a).1+(aM fs op a).2)):e=.returned (.tuple #[.int .i64 (z-(aM fs op a).1+(aM fs op a).2),.bool true]):=by
 unfold cN at h;rwa [if_neg hc] at h
theorem iHeights_any(a1 a2 ca:Option Addr)(nt c1 c2 cc:Nat)(fs:List Fn)(code:List (Int×Int))(w:World)(hm:FnsAt w 0 a2 fs)(d4:bn w 0 ca code)(F:Fine fs code) :
  Calls Tryz.prog 158 #[.agg #[.slice a1 nt c1,.slice a2 fs.length c2],.slice ca code.length cc] w fun e w'=>∃g d,e=.returned (.slice (some ⟨g,0,none⟩) code.length code.length)/\w.heap.size<=g/\Done fs code d/\Ht w' g code.length d/\Below w.heap.size w w':=by
 have hone:=F.one;have hmost:=F.most;have hbA:Below w.heap.size w (w.alloc (.cells #[.slice a1 nt c1,.slice a2 fs.length c2] 36)):=b_r.alloc n_l _;have hM0:=al w #[.slice a1 nt c1,.slice a2 fs.length c2] 36;have hbB:Below w.heap.size w ((w.alloc (.cells #[.slice a1 nt c1,.slice a2 fs.length c2] 36)).alloc (.cells #[.int .i64 (-1)] 3)):=hbA.alloc (by simp) _;have hMB:=au hM0 (.cells #[.int .i64 (-1)] 3);have hX:=fR (w.alloc (.cells #[.slice a1 nt c1,.slice a2 fs.length c2] 36)) (w.heap.size+1) (by simp) (.int .i64 (-1)) 3 0 (.int .i64 (-1)) rfl;rw[gL] at hX;go_enter Tryz.func158,Tryz.ntmps158
 go_wp2;go_step3
 go_wp2_with fail
 refine (repeat_any (w.heap.size+1) code.length (-1) _ hone hmost hX).mono ?_;rintro e w1 ⟨g,rfl,hg,hH,hb⟩;have hM1:=ah hMB hb;have hb1:Below w.heap.size w w1:=hbB.trans (hb.mono (by simp;omega));have hg1:w.heap.size+1<=g:=by simp at hg;omega
 have hcl:=hH.cell (j:=0) (by simp;omega);have hfz:=hH.free 0;clear hbA hM0 hbB hMB hX hb hg;go_wp2;go_step3
 go_wp2;have hH1:Ht (w1.setCell ⟨g,0,none⟩ (.int .i64 0)) g code.length (bM fs code 0):=hH.set (j:=0) (by simp;omega) 0;have hM2:(w1.setCell ⟨g,0,none⟩ (.int .i64 0)).heap[w.heap.size]?=some (.cells #[.slice a1 nt c1,.slice a2 fs.length c2] 36 (0,0)):=by rw[Below.heap_setCell _ _ _ _ (by simp;omega)];exact hM1
 have hb2:Below w.heap.size w (w1.setCell ⟨g,0,none⟩ (.int .i64 0)):=hb1.setCell (by simp;omega) _;have hN0:negs (bM fs code 0)=code.length-1:=init_negs hone;have HN0:Hid (negs (bM fs code 0)=code.length-1):=hN0;clear hN0 hH hcl hfz hM1 hb1;go_loopw [6] (fun mi wo=>∃(j:Nat),mi=.int .i64 (negs (bM fs code j):Nat)/\Ht wo g code.length (bM fs code j)/\wo.heap[w.heap.size]?=some (.cells #[.slice a1 nt c1,.slice a2 fs.length c2] 36 (0,0))/\Below w.heap.size w wo) (fun mi _=>(intOf mi).toNat)
 case atStart=>exact⟨0,by rw[HN0.out];congr 1;omega,hH1,hM2,hb2⟩
 case round=>
  obtain⟨j,rfl,hH,hM,hb⟩:=hrel;clear hH1 hM2 hb2 HN0;have H0:=er F j;have hle:negs (bM fs code j)<=code.length:=by
   have h1:negs (bM fs code j)<=(bM fs code j).length:=List.countP_le_length;rw[H0.len] at h1;exact h1
  obtain⟨h0,hh0⟩:∃h0,h0=bM fs code j:=⟨_,rfl⟩;have HH:Hid (h0=bM fs code j):=hh0;rw[<-hh0] at H0 hH hle ⊢;clear hh0;obtain⟨N,hN⟩:∃N,N=negs h0:=⟨_,rfl⟩;have HNN:Hid (N=negs h0):=hN;rw[<-hN] at hle ⊢;clear hN;go_wp2;go_loopw [6,26] (fun mi i wi=>∃(pc:Nat) (M:Nat),pc<=code.length/\i=.int .i64 pc/\mi=.int .i64 M/\Hid (M=negs (bI fs code pc h0))/\M<=N/\Ht wi g code.length (bI fs code pc h0)/\wi.heap[w.heap.size]?=some (.cells #[.slice a1 nt c1,.slice a2 fs.length c2] 36 (0,0))/\Below w.heap.size w wi) (fun _ i _=>code.length-(intOf i).toNat)
  case atStart=>exact⟨0,N,by omega,rfl,rfl,HNN.out,by omega,hH,hM,hb⟩
  case round=>
   obtain⟨pc,M,hpc,rfl,rfl,hMN,hMle,hH1,hM1,hb1⟩:=hrel;obtain⟨wi,rfl⟩:∃wi,wi=wr:=⟨_,rfl⟩;clear hH hM hb;by_cases hlt:pc<code.length
   ·have P1:=(dX F H0 pc hpc).1;have HP:Hid (bI fs code (pc+1) h0=ey fs code[pc] pc (bI fs code pc h0)):=part_succ hlt h0;obtain⟨h1,hh1⟩:∃h1,h1=bI fs code pc h0:=⟨_,rfl⟩;rw[<-hh1] at hMN P1 HP hH1;clear hh1;have hlen:pc<h1.length:=by rw[P1.len];exact hlt
    have HZ:Hid (h1.getD pc (-1)=h1[pc]):=P1.get hlt;have z0:=P1.low pc hlen;have z1:=P1.high pc hlen;obtain⟨cb,co,rfl,-,e1,e2⟩:=d4 pc hlt;have e1':=cell_later hb1 e1;have e2':=cell_later hb1 e2;obtain⟨u0,u1,u2,u3⟩:=dO F.params code[pc].1 code[pc].2;clear e1 e2;obtain⟨wx,hwx⟩:∃wx,wx=wi.alloc (.cells #[.int .i64 code[pc].1,.int .i64 code[pc].2] 263):=⟨_,rfl⟩;have hkx:Below wi.heap.size wi wx:=by rw[hwx];exact b_r.alloc n_l _
    have hXx:wx.heap[wi.heap.size]?=some (.cells #[.int .i64 code[pc].1,.int .i64 code[pc].2] 263 (0,0)):=by rw[hwx];exact al _ _ _
    have hMx:=ah hM1 hkx;have hHx:=hH1.mono hkx;have hbx:Below w.heap.size w wx:=hb1.trans (hkx.mono hb1.size);have HWX:Hid (wx=wi.alloc (.cells #[.int .i64 code[pc].1,.int .i64 code[pc].2] 263)):=hwx;clear hwx hkx;by_cases hfit:h1[pc]<(aM fs code[pc].1 code[pc].2).1\/16<h1[pc]-(aM fs code[pc].1 code[pc].2).1+(aM fs code[pc].1 code[pc].2).2
    ·have HS:Hid (bI fs code (pc+1) h0=h1):=by show _=_;rw[HP.out];exact stepB_no HZ.out rfl rfl hfit
     have HF:Hid (h1[pc]<(aM fs code[pc].1 code[pc].2).1\/16<h1[pc]-(aM fs code[pc].1 code[pc].2).1+(aM fs code[pc].1 code[pc].2).2):=hfit;clear hfit;go_wp2;rw[<-HWX.out];have hcl:=hHx.cell hlen;have y1:=ae hMx;have v1:=ae hXx
     go_region_held3 (fun w'=>w'.cell? ⟨w.heap.size,0,none⟩=some (.slice a1 nt c1)/\w'.cell? ⟨w.heap.size,1,none⟩=some (.slice a2 fs.length c2)/\w'.cell? ⟨wi.heap.size,0,none⟩=some (.int .i64 code[pc].1)/\w'.cell? ⟨wi.heap.size,1,none⟩=some (.int .i64 code[pc].2)/\w'.cell? ⟨g,pc,none⟩=some (.int .i64 h1[pc]))
      (first | exact⟨(y1 0).trans rfl,(y1 1).trans rfl,(v1 0).trans rfl,(v1 1).trans rfl,hcl⟩ | exact⟨ckb hMx k6 rfl,ckb hMx k6 rfl,ckb hXx k6 rfl,ckb hXx k6 rfl,cell_later k6 hcl⟩)
      (first | (go_at_call 215;refine (ep _ _ _ _ _ fs code[pc].1 code[pc].2 h1[pc] _ (by exact hm.mono hbx.drew) F.params (by exact z0) (by exact z1)).mono ?_;rintro e w4 ⟨hL,k6d⟩;have k6:=bS k6d;obtain⟨qq,rfl⟩:=hL.no HF.out))
     have hM2:=ah hMx k6;have hH2:Ht w4 g code.length (bI fs code (pc+1) h0):=by rw[HS.out];exact hHx.mono k6
     have hb2:Below w.heap.size w w4:=hbx.trans (k6.mono hbx.size);clear hMx hHx hbx hcl y1 v1 k6 k6d hXx;go_wp2;go_roundw
     case rel=>exact⟨pc+1,M,by omega,by go_num,rfl,by rw[HS.out];exact hMN,hMle,hH2,hM2,hb2⟩
     case measure=>simp[intOf];omega
    ·obtain⟨left,hleft⟩:∃left,left=h1[pc]-(aM fs code[pc].1 code[pc].2).1+(aM fs code[pc].1 code[pc].2).2:=⟨_,rfl⟩;have HL:Hid (left=h1[pc]-(aM fs code[pc].1 code[pc].2).1+(aM fs code[pc].1 code[pc].2).2):=hleft;have l0:0<=left:=by omega
     have l1:left<=16:=by omega
     have HS:Hid (bI fs code (pc+1) h0=(nextB code[pc].1 code[pc].2 pc).foldl (layB left) h1):=by show _=_;rw[HP.out,hleft];exact stepB_yes HZ.out rfl rfl hfit
     have HF:Hid (¬(h1[pc]<(aM fs code[pc].1 code[pc].2).1\/16<h1[pc]-(aM fs code[pc].1 code[pc].2).1+(aM fs code[pc].1 code[pc].2).2)):=hfit;have hnx:=fT F hlt;clear hfit hleft;go_wp2;rw[<-HWX.out];have hcl:=hHx.cell hlen;have y1:=ae hMx;have v1:=ae hXx
     go_region_held3 (fun w'=>w'.cell? ⟨w.heap.size,0,none⟩=some (.slice a1 nt c1)/\w'.cell? ⟨w.heap.size,1,none⟩=some (.slice a2 fs.length c2)/\w'.cell? ⟨wi.heap.size,0,none⟩=some (.int .i64 code[pc].1)/\w'.cell? ⟨wi.heap.size,1,none⟩=some (.int .i64 code[pc].2)/\w'.cell? ⟨g,pc,none⟩=some (.int .i64 h1[pc]))
      (first | exact⟨(y1 0).trans rfl,(y1 1).trans rfl,(v1 0).trans rfl,(v1 1).trans rfl,hcl⟩ | exact⟨ckb hMx k6 rfl,ckb hMx k6 rfl,ckb hXx k6 rfl,ckb hXx k6 rfl,cell_later k6 hcl⟩)
      (first | (go_at_call 215;refine (ep _ _ _ _ _ fs code[pc].1 code[pc].2 h1[pc] _ (by exact hm.mono hbx.drew) F.params (by exact z0) (by exact z1)).mono ?_;rintro e w4 ⟨hL,k6d⟩;have k6:=bS k6d;obtain rfl:=hL.yes HF.out;rw[<-HL.out]))
     have hM2:=ah hMx k6;have hX2:=ah hXx k6;have hH2:=hHx.mono k6;have hb2:Below w.heap.size w w4:=hbx.trans (k6.mono hbx.size);have v2:=ae hX2;clear hMx hHx hbx hcl y1 v1 k6 k6d hXx;go_wp2_with fail
     refine (iNext_any code[pc].1 code[pc].2 pc _ (by omega)).mono ?_;rintro e w5 ⟨ad,ncap,rfl,hI,k7⟩;have hM3:=ah hM2 k7;have hH3:=hH2.mono k7;have hb3:Below w.heap.size w w5:=hb2.trans (k7.mono hb2.size);have hglt:=hH2.lt;obtain⟨nx,hnxe⟩:∃nx,nx=nextB code[pc].1 code[pc].2 pc:=⟨_,rfl⟩;rw[<-hnxe] at hI hnx HS ⊢;have hnl:nx.length<=2:=by rw[hnxe];exact eV _ _ _
     clear hM2 hH2 hb2 k7 hX2 v2 hnxe;go_wp2;go_loopw [6,47] (fun mi i ws=>∃(q M4:Nat) (cur:List Int),q<=nx.length/\i=.int .i64 q/\mi=.int .i64 M4/\Hid (cur=(nx.take q).foldl (layB left) h1)/\Hid (M4=negs cur)/\M4<=N/\Hts code.length cur/\Ht ws g code.length cur/\a9 ws w4.heap.size ad nx/\ws.heap[w.heap.size]?=some (.cells #[.slice a1 nt c1,.slice a2 fs.length c2] 36 (0,0))/\Below w.heap.size w ws) (fun _ i _=>nx.length-(intOf i).toNat)
     case atStart=>exact⟨0,M,h1,by omega,rfl,rfl,rfl,hMN,hMle,P1,hH3,hI,hM3,hb3⟩
     case round=>
      obtain⟨q,M4,cur,hq,rfl,rfl,hcur,hM4n,hM4le,P4,hH4,hI4,hM4,hb4⟩:=hrel;obtain⟨ws,rfl⟩:∃ws,ws=wr:=⟨_,rfl⟩;clear hH3 hI hM3 hb3;by_cases hlq:q<nx.length
      ·obtain⟨v0,v1⟩:=hnx nx[q] (g_m hlq);obtain⟨nb,no,rfl,hnb,m1⟩:=hI4 q hlq;obtain⟨nk,hnk⟩:∃nk:Nat,nx[q]=(nk:Int):=⟨nx[q].toNat,by omega⟩;rw[hnk] at m1;have HN:Hid ((nx.take (q+1)).foldl (layB left) h1=layB left cur nk):=by show _=_;rw[fold_take hlq,<-hcur.out,hnk]
       clear hcur;by_cases hin:nk<code.length
       ·have hkl:nk<cur.length:=by rw[P4.len];exact hin
        have m2:=hH4.cell hkl;have m3:=hH4.free nk;have hget:cur.getD ((nk:Int)).toNat (-1)=cur[nk]:=by rw[Int.toNat_natCast];exact P4.get hin
        have bne:((nk:Int) == (code.length:Int))=false:=by rw[beq_eq_false_iff_ne];omega
        rcases fz (h:=cur) (left:=left) (nx:=(nk:Int)) l0 (by omega) with ⟨hsame,hno⟩ | ⟨-,hneg,hset,hless⟩
        ·have hnn:0<=cur[nk]:=by
          rw[hget,P4.len] at hno;omega
         have bn1:(cur[nk] != -1)=true:=by rw[bne_iff_ne];omega
         have HN2:Hid (cur=(nx.take (q+1)).foldl (layB left) h1):=by show _=_;rw[HN.out,hsame]
         clear hsame hno hget hnk;go_wp2;go_roundw
         case rel=>exact⟨q+1,M4,cur,by omega,by go_num,rfl,HN2,hM4n,hM4le,P4,hH4,hI4,hM4,hb4⟩
         case measure=>simp[intOf];omega
        ·have hnn:cur[nk]=-1:=by rw[hget] at hneg;have:=P4.low nk hkl;omega
         rw[hnn] at m2;have HN2:Hid (cur.set nk left=(nx.take (q+1)).foldl (layB left) h1):=by show _=_;rw[HN.out,hset,Int.toNat_natCast]
         have P5:Hts code.length (cur.set nk left):=by have:=fV (nx:=(nk:Int)) P4 l0 l1;rw[hset,Int.toNat_natCast] at this;exact this
         have hM1':1<=M4:=by rw[hM4n.out];omega
         have HT5:Hid (M4-1=negs (cur.set nk left)):=by
          show _=_
          rw[hset,Int.toNat_natCast] at hless;rw[hM4n.out];omega
         have hH5:=hH4.set hkl left;have hI5:=hI4.above ((aZ.refl _ _).setCell (p:=⟨g,nk,none⟩) hglt (.int .i64 left));have hM5:(ws.setCell ⟨g,nk,none⟩ (.int .i64 left)).heap[w.heap.size]?=some (.cells #[.slice a1 nt c1,.slice a2 fs.length c2] 36 (0,0)):=by rw[Below.heap_setCell _ _ _ _ (by simp;omega)];exact hM4
         have hb5:Below w.heap.size w (ws.setCell ⟨g,nk,none⟩ (.int .i64 left)):=hb4.setCell (by simp;omega) _;clear hset hless hneg hget hnk hnn;go_wp2;go_roundw
         case rel=>exact⟨q+1,M4-1,cur.set nk left,by omega,by go_num,by congr 1;omega,HN2,HT5,by omega,P5,hH5,hI5,hM5,hb5⟩
         case measure=>simp[intOf];omega
       ·have bne:((nk:Int) == (code.length:Int))=true:=by rw[beq_iff_eq];omega
        have HN2:Hid (cur=(nx.take (q+1)).foldl (layB left) h1):=by
         show _=_
         rw[HN.out];unfold layB;rw[if_neg (by rw[P4.len];omega)]
        clear hnk;go_wp2;go_roundw
        case rel=>exact⟨q+1,M4,cur,by omega,by go_num,rfl,HN2,hM4n,hM4le,P4,hH4,hI4,hM4,hb4⟩
        case measure=>simp[intOf];omega
      ·have HC:Hid (cur=bI fs code (pc+1) h0):=by
        show _=_
        rw[HS.out,hcur.out,List.take_of_length_le (by omega)]
       clear hcur;by_cases hz:M4=0
       ·subst hz;have hD:Done fs code (bI fs code (pc+1) h0):=by
         have e1:=HH.out;have e2:=hM4n.out;have e3:=HC.out;subst e1;exact done_full F (by omega) (by rw[<-e3];exact e2.symm)
        go_wp2;rw[Exit.noGoto_ret];go_ret
        exact⟨g,_,rfl,by omega,hD,by rw[<-HC.out];exact hH4,hb4⟩
       ·have bz:((M4:Int) == 0)=false:=by rw[beq_eq_false_iff_ne];omega
        go_wp2;go_roundw
        case rel=>exact⟨pc+1,M4,by omega,by go_num,rfl,by rw[<-HC.out];exact hM4n,hM4le,by rw[<-HC.out];exact hH4,hM4,hb4⟩
        case measure=>simp[intOf];omega
   ·have hpn:pc=code.length:=by omega
    subst hpn;by_cases hMM:M=N
    ·subst hMM;have hD:Done fs code (bI fs code code.length h0):=by
      have e1:=HH.out;have e2:=hMN.out;have e3:=HNN.out;subst e1;exact done_same F (by omega)
     go_wp2;rw[Exit.noGoto_ret];go_ret
     exact⟨g,_,rfl,by omega,hD,hH1,hb1⟩
    ·go_wp2;go_roundw
     case rel=>exact⟨j+1,by rw[hMN.out,HH.out];rfl,by rw[HH.out] at hH1;exact hH1,hM1,hb1⟩
     case measure=>simp[intOf];omega
theorem dZ{ts:List ByteArray}{fs:List Fn}(h:modB ts fs=true){k:Nat}(hk:k<fs.length):Fine fs fs[k].code:=by
 unfold modB at h;simp only[Bool.and_eq_true,decide_eq_true_eq,List.all_eq_true] at h
 have hall:=h.2;have hf:∀f∈fs,fnB ts.length fs.length f=true:=hall;have hfn:∀f∈fs,(0<=f.params/\f.params<=6)/\1<=f.code.length/\f.code.length<=120/\∀x∈f.code,insB ts.length fs.length f.locals f.code.length x.1 x.2=true:=by
  intro f hm;have:=hf f hm;unfold fnB at this;simp only[Bool.and_eq_true,decide_eq_true_eq,List.all_eq_true] at this
  exact⟨⟨by omega,by omega⟩,by omega,by omega,this.2⟩
 have hkk:=hfn fs[k] (g_m hk);refine⟨fun f hm=>(hfn f hm).1,hkk.2.1,hkk.2.2.1,fun i hi hj=>?_⟩;have hx:=hkk.2.2.2 fs[k].code[i] (g_m hi);unfold insB at hx;rcases hj with e | e | e
 all_goals
  rw[e] at hx;simp at hx
  omega
def DSl (w:World)(base:Nat)(v:Value)(d:List Int):Prop:=(d=[]/\∃a cap,v=.slice a 0 cap)\/(∃g cap,v=.slice (some ⟨g,0,none⟩) d.length cap/\base<=g/\Ht w g cap d)
theorem DSl.form{w:World}{base:Nat}{v:Value}{d:List Int}(h:DSl w base v d):∃a cap,v=.slice a d.length cap/\a9 w base a d:=by
 rcases h with ⟨rfl,a,cap,rfl⟩ | ⟨g,cap,rfl,hg,hH⟩
 ·exact⟨a,cap,rfl,fun i hi=>absurd hi (by simp)⟩
 ·exact⟨_,cap,rfl,hH.ints hg⟩
theorem DSl.low{w:World}{base base':Nat}{v:Value}{d:List Int}(h:DSl w base v d)(hl:base'<=base):DSl w base' v d:=by
 rcases h with h | ⟨g,cap,rfl,hg,hH⟩
 ·exact .inl h
 ·exact .inr ⟨g,cap,rfl,by omega,hH⟩
def VPost (ts:List ByteArray)(fs:List Fn)(c f a:Int):Prop:=(modB ts fs=false/\c=1/\f=0/\a=0)\/(modB ts fs=true/\Told fs c f a)
theorem VPost.one{ts:List ByteArray}{fs:List Fn}{c f a c' f' a':Int}(h:VPost ts fs c f a)(h':VPost ts fs c' f' a'):c=c'/\f=f'/\a=a':=by
 rcases h with ⟨h,rfl,rfl,rfl⟩ | ⟨h,ht⟩
 ·rcases h' with ⟨-,rfl,rfl,rfl⟩ | ⟨h',-⟩
  ·exact⟨rfl,rfl,rfl⟩
  ·rw[h] at h';cases h'
 ·rcases h' with ⟨h',-⟩ | ⟨-,ht'⟩
  ·rw[h] at h';cases h'
  ·exact ht.one ht'
theorem dL{fs:List Fn}{code:List (Int×Int)}{d:List Int}{k:Nat}(hD:Done fs code d)(h:∀j,j<k->aW fs code d j=0):gt fs code k:=fun e he j hj=>by
 obtain rfl:=hD.one he;exact h j hj
theorem cB{W:World}{R:Nat}{x y z:Int}(h:W.heap[R]?=some (.cells #[.int .i64 0,.int .i64 0,.int .i64 0] 168 (0,0))):(((W.setCell ⟨R,0,none⟩ (.int .i64 x)).setCell ⟨R,1,none⟩ (.int .i64 y)).setCell ⟨R,2,none⟩ (.int .i64 z)).heap[R]?=some (.cells #[.int .i64 x,.int .i64 y,.int .i64 z] 168 (0,0)):=by
 have:=ak (i:=2) (ak (i:=1) (ak (i:=0) h (.int .i64 x)) (.int .i64 y)) (.int .i64 z);simpa using this
def Hs (w:World)(base G k:Nat)(fs:List Fn):Prop:=base<=G/\∃cur:Array Value,w.heap[G]?=some (Obj.cells cur 50 (0,0))/\cur.size=fs.length /\
 ∀j (hj:j<fs.length),j<k->∃g d,cur[j]?=some (.slice (some ⟨g,0,none⟩) fs[j].code.length fs[j].code.length)/\base<=g/\Done fs fs[j].code d/\Ht w g fs[j].code.length d
theorem Hs.mono{w w':World}{base G k:Nat}{fs:List Fn}(h:Hs w base G k fs)(hb:Below w.heap.size w w'):Hs w' base G k fs:=by
 obtain⟨h0,cur,h1,h2,h3⟩:=h;refine⟨h0,cur,ah h1 hb,h2,fun j hj hk=>?_⟩;obtain⟨g,d,k1,k2,k3,k4⟩:=h3 j hj hk;exact⟨g,d,k1,k2,k3,k4.mono hb⟩
theorem Ht.other{w:World}{g cap G i:Nat}{d:List Int}{cur:Array Value}(h:Ht w g cap d)(hG:w.heap[G]?=some (Obj.cells cur 50 (0,0)))(v:Value):Ht (w.setCell ⟨G,i,none⟩ v) g cap d:=by
 obtain⟨c,h1,h2⟩:=h;have hne:g≠G:=by
  intro e;subst e;rw[h1] at hG;simp at hG
 exact⟨c,by rw[Below.heap_setCell _ _ _ _ hne];exact h1,h2⟩
theorem Hs.put{w:World}{base G k g:Nat}{fs:List Fn}{d:List Int}(h:Hs w base G k fs)(hk:k<fs.length)(hg:base<=g)(hD:Done fs fs[k].code d)(hH:Ht w g fs[k].code.length d) :
  Hs (w.setCell ⟨G,k,none⟩ (.slice (some ⟨g,0,none⟩) fs[k].code.length fs[k].code.length)) base G (k+1) fs:=by
 obtain⟨h0,cur,h1,h2,h3⟩:=h;refine⟨h0,_,ak h1 _,by simpa using h2,fun j hj hjk=>?_⟩;by_cases e:j=k
 ·subst e;exact⟨g,d,aC _ (by omega),hg,hD,hH.other h1 _⟩
 ·obtain⟨g',d',k1,k2,k3,k4⟩:=h3 j hj (by omega);exact⟨g',d',by rw[aj _ e];exact k1,k2,k3,k4.other h1 _⟩
theorem Hs.at{w:World}{base G k:Nat}{fs:List Fn}(h:Hs w base G k fs){j:Nat}(hj:j<fs.length)(hk:j<k):∃g d,w.cell? ⟨G,j,none⟩=some (.slice (some ⟨g,0,none⟩) fs[j].code.length fs[j].code.length)/\Done fs fs[j].code d/\Ht w g fs[j].code.length d:=by
 obtain⟨-,cur,h1,h2,h3⟩:=h;obtain⟨g,d,k1,-,k3,k4⟩:=h3 j hj hk;exact⟨g,d,by rw[ae h1];exact k1,k3,k4⟩
theorem Hs.cell{w:World}{base G k:Nat}{fs:List Fn}(h:Hs w base G k fs){j:Nat}(hj:j<fs.length):∃v,w.cell? ⟨G,j,none⟩=some v:=by
 obtain⟨-,cur,h1,h2,-⟩:=h;exact⟨cur[j],by rw[ae h1];simp⟩
theorem Hs.free{w:World}{base G k:Nat}{fs:List Fn}(h:Hs w base G k fs)(j:Nat):w.frozen? ⟨G,j,none⟩=false:=by
 obtain⟨-,cur,h1,-,-⟩:=h;exact aq h1 j
theorem Hs.three{w:World}{base G k R:Nat}{fs:List Fn}{c:Array Value}{x y z:Value}(h:Hs w base G k fs)(hR:w.heap[R]?=some (Obj.cells c 168 (0,0))):Hs (((w.setCell ⟨R,0,none⟩ x).setCell ⟨R,1,none⟩ y).setCell ⟨R,2,none⟩ z) base G k fs:=by
 have one:∀g,(∀c',w.heap[g]?≠some (Obj.cells c' 168 (0,0)))->(((w.setCell ⟨R,0,none⟩ x).setCell ⟨R,1,none⟩ y).setCell ⟨R,2,none⟩ z).heap[g]?=w.heap[g]?:=fun g hg=>by
  have hne:g≠R:=by
   intro e;subst e;exact hg _ hR
  rw[Below.heap_setCell _ _ _ _ hne,Below.heap_setCell _ _ _ _ hne,Below.heap_setCell _ _ _ _ hne]
 obtain⟨h0,cur,h1,h2,h3⟩:=h;refine⟨h0,cur,by rw[one G (by intro c' h;rw[h1] at h;simp at h)];exact h1,h2,fun j hj hk=>?_⟩;obtain⟨g,d,k1,k2,k3,cc,k4,k5⟩:=h3 j hj hk;exact⟨g,d,k1,k2,k3,cc,by rw[one g (by intro c' h;rw[k4] at h;simp at h)];exact k4,k5⟩
section
variable {fs:List Fn} {code:List (Int×Int)} {d:List Int} {pc:Nat} {z t l:Int}
theorem trouble_none(hk:pc<code.length)(hz:d.getD pc (-1)=z)(h:z<0):aW fs code d pc=0:=by
 unfold aW;simp only[cA hk,hz]
 rw[if_pos h]
theorem trouble_stack(hk:pc<code.length)(hz:d.getD pc (-1)=z)(ht:(aM fs code[pc].1 code[pc].2).1=t)(hl:(aM fs code[pc].1 code[pc].2).2=l)(h:¬z<0)(hc:z<t\/16<z-t+l):aW fs code d pc=2:=by
 unfold aW;simp only[cA hk,hz,ht,hl]
 rw[if_neg h,if_pos hc]
theorem trouble_end(hk:pc<code.length)(hz:d.getD pc (-1)=z)(ht:(aM fs code[pc].1 code[pc].2).1=t)(hl:(aM fs code[pc].1 code[pc].2).2=l)(h:¬z<0)(hc:¬(z<t\/16<z-t+l))
  (hn:(nextB code[pc].1 code[pc].2 pc).any (fun nx=>decide ((code.length:Int)<=nx))=true):aW fs code d pc=3:=by
 unfold aW;simp only[cA hk,hz,ht,hl]
 rw[if_neg h,if_neg hc,if_pos hn]
theorem trouble_join(hk:pc<code.length)(hz:d.getD pc (-1)=z)(ht:(aM fs code[pc].1 code[pc].2).1=t)(hl:(aM fs code[pc].1 code[pc].2).2=l)(h:¬z<0)(hc:¬(z<t\/16<z-t+l))
  (hn:(nextB code[pc].1 code[pc].2 pc).any (fun nx=>decide ((code.length:Int)<=nx))=false) (hj:(nextB code[pc].1 code[pc].2 pc).any (fun nx=>decide (d.getD nx.toNat (-1)≠z-t+l))=true):aW fs code d pc=4:=by
 unfold aW;simp only[cA hk,hz,ht,hl]
 rw[if_neg h,if_neg hc,if_neg (by rw[hn];simp),if_pos hj]
theorem trouble_fine(hk:pc<code.length)(hz:d.getD pc (-1)=z)(ht:(aM fs code[pc].1 code[pc].2).1=t)(hl:(aM fs code[pc].1 code[pc].2).2=l)(h:¬z<0)(hc:¬(z<t\/16<z-t+l))
  (hn:(nextB code[pc].1 code[pc].2 pc).any (fun nx=>decide ((code.length:Int)<=nx))=false) (hj:(nextB code[pc].1 code[pc].2 pc).any (fun nx=>decide (d.getD nx.toNat (-1)≠z-t+l))=false):aW fs code d pc=0:=by
 unfold aW;simp only[cA hk,hz,ht,hl]
 rw[if_neg h,if_neg hc,if_neg (by rw[hn];simp),if_neg (by rw[hj];simp)]
end
theorem ek{α:Type}{p:α->Bool}{l:List α}{k:Nat}(hk:k<l.length)(h:(l.take k).any p=false)(hx:p l[k]=false):(l.take (k+1)).any p=false:=by
 rw[List.take_succ_eq_append_getElem hk,List.any_append,h];simp[hx]
theorem fq{α:Type}{p:α->Bool}{l:List α}{k:Nat}(hk:k<l.length)(hx:p l[k]=true):l.any p=true:=by
 rw[List.any_eq_true];exact⟨l[k],g_m hk,hx⟩
theorem gx{α:Type}{p:α->Bool}{l:List α}{k:Nat}(hk:l.length<=k)(h:(l.take k).any p=false):l.any p=false:=by
 rwa [List.take_of_length_le hk] at h
theorem any_ends{n:Int}{l:List Int}(h:∀x∈l,x<=n):l.any (fun x=>decide (x=n))=l.any (fun x=>decide (n<=x)):=by
 rw[Bool.eq_iff_iff,List.any_eq_true,List.any_eq_true];constructor
 ·rintro⟨x,hx,he⟩;exact⟨x,hx,by simp at he ⊢;omega⟩
 ·rintro⟨x,hx,he⟩;have:=h x hx;exact⟨x,hx,by simp at he ⊢;omega⟩
theorem trouble_any(a1 a2 ca:Option Addr)(nt c1 c2 cc:Nat)(fs:List Fn)(code:List (Int×Int))(d:List Int)(g cap pc:Nat)(w:World)(hm:FnsAt w 0 a2 fs)(d4:bn w 0 ca code)(F:Fine fs code)(P:Hts code.length d)(hH:Ht w g cap d)(hlt:pc<code.length) :
  Calls Tryz.prog 159 #[.agg #[.slice a1 nt c1,.slice a2 fs.length c2],.slice ca code.length cc,.slice (some ⟨g,0,none⟩) code.length cap,.int .i64 pc] w fun e w'=>e=.returned (.int .i64 (aW fs code d pc))/\Below w.heap.size w w':=by
 have hmost:=F.most;have hbA:Below w.heap.size w (w.alloc (.cells #[.slice a1 nt c1,.slice a2 fs.length c2] 36)):=b_r.alloc n_l _;have hM0:=al w #[.slice a1 nt c1,.slice a2 fs.length c2] 36;have hlen:pc<d.length:=by rw[P.len];exact hlt
 have HZ:Hid (d.getD pc (-1)=d[pc]):=P.get hlt;have z0:=P.low pc hlen;have z1:=P.high pc hlen;have hcl:=cell_later hbA (hH.cell hlen);have hH0:=hH.mono hbA;obtain⟨cb,co,rfl,-,e1,e2⟩:=d4 pc hlt;have e1':=cell_later hbA e1;have e2':=cell_later hbA e2;have y1:=ae hM0;obtain⟨u0,u1,u2,u3⟩:=dO F.params code[pc].1 code[pc].2;clear e1 e2;by_cases hneg:d[pc]<0
 ·have hb:(d[pc] == -1)=true:=by rw[beq_iff_eq];omega
  have HT:Hid (aW fs code d pc=0):=trouble_none hlt HZ.out hneg;clear hneg;go_enter Tryz.func159,Tryz.ntmps159
  go_wp2;go_ret
  exact⟨dd HT.out.symm,hbA⟩
 have hb:(d[pc] == -1)=false:=by rw[beq_eq_false_iff_ne];omega
 have HNN:Hid (¬d[pc]<0):=hneg;obtain⟨wx,hwx⟩:∃wx,wx=w.alloc (.cells #[.slice a1 nt c1,.slice a2 fs.length c2] 36):=⟨_,rfl⟩;have HWX:Hid (wx=w.alloc (.cells #[.slice a1 nt c1,.slice a2 fs.length c2] 36)):=hwx;by_cases hfit:d[pc]<(aM fs code[pc].1 code[pc].2).1\/16<d[pc]-(aM fs code[pc].1 code[pc].2).1+(aM fs code[pc].1 code[pc].2).2
 ·have HT:Hid (aW fs code d pc=2):=trouble_stack hlt HZ.out rfl rfl hneg hfit;have HF:Hid (d[pc]<(aM fs code[pc].1 code[pc].2).1\/16<d[pc]-(aM fs code[pc].1 code[pc].2).1+(aM fs code[pc].1 code[pc].2).2):=hfit;clear hfit hneg hwx;go_enter Tryz.func159,Tryz.ntmps159
  go_wp2;rw[<-HWX.out] at hbA hM0 hcl hH0 e1' e2' y1 ⊢
  go_region_held3 (fun w'=>w'.cell? ⟨w.heap.size,0,none⟩=some (.slice a1 nt c1)/\w'.cell? ⟨w.heap.size,1,none⟩=some (.slice a2 fs.length c2)/\w'.cell? ⟨cb,co+pc*2,none⟩=some (.int .i64 code[pc].1)/\w'.cell? ⟨cb,co+pc*2+1,none⟩=some (.int .i64 code[pc].2)/\w'.cell? ⟨g,pc,none⟩=some (.int .i64 d[pc]))
   (first | exact⟨(y1 0).trans rfl,(y1 1).trans rfl,e1',e2',hcl⟩ | exact⟨ckb hM0 k6 rfl,ckb hM0 k6 rfl,cell_later k6 e1',cell_later k6 e2',cell_later k6 hcl⟩)
   (first | (go_at_call 215;refine (ep _ _ _ _ _ fs code[pc].1 code[pc].2 d[pc] _ (by exact hm.mono hbA.drew) F.params (by exact z0) (by exact z1)).mono ?_;rintro e w4 ⟨hL,k6d⟩;have k6:=bS k6d;obtain⟨qq,rfl⟩:=hL.no HF.out))
  go_wp2;go_ret
  exact⟨dd HT.out.symm,hbA.trans (k6.mono hbA.size)⟩
 obtain⟨left,hleft⟩:∃left,left=d[pc]-(aM fs code[pc].1 code[pc].2).1+(aM fs code[pc].1 code[pc].2).2:=⟨_,rfl⟩;have HL:Hid (left=d[pc]-(aM fs code[pc].1 code[pc].2).1+(aM fs code[pc].1 code[pc].2).2):=hleft;have HF:Hid (¬(d[pc]<(aM fs code[pc].1 code[pc].2).1\/16<d[pc]-(aM fs code[pc].1 code[pc].2).1+(aM fs code[pc].1 code[pc].2).2)):=hfit;have hnx:=fT F hlt;clear hfit hneg hwx hleft;go_enter Tryz.func159,Tryz.ntmps159
 go_wp2;rw[<-HWX.out] at hbA hM0 hcl hH0 e1' e2' y1 ⊢
 go_region_held3 (fun w'=>w'.cell? ⟨w.heap.size,0,none⟩=some (.slice a1 nt c1)/\w'.cell? ⟨w.heap.size,1,none⟩=some (.slice a2 fs.length c2)/\w'.cell? ⟨cb,co+pc*2,none⟩=some (.int .i64 code[pc].1)/\w'.cell? ⟨cb,co+pc*2+1,none⟩=some (.int .i64 code[pc].2)/\w'.cell? ⟨g,pc,none⟩=some (.int .i64 d[pc]))
  (first | exact⟨(y1 0).trans rfl,(y1 1).trans rfl,e1',e2',hcl⟩ | exact⟨ckb hM0 k6 rfl,ckb hM0 k6 rfl,cell_later k6 e1',cell_later k6 e2',cell_later k6 hcl⟩)
  (first | (go_at_call 215;refine (ep _ _ _ _ _ fs code[pc].1 code[pc].2 d[pc] _ (by exact hm.mono hbA.drew) F.params (by exact z0) (by exact z1)).mono ?_;rintro e w4 ⟨hL,k6d⟩;have k6:=bS k6d;obtain rfl:=hL.yes HF.out;rw[<-HL.out]))
 have hH4:=hH0.mono k6;have hb4:Below w.heap.size w w4:=hbA.trans (k6.mono hbA.size);have e14:=cell_later k6 e1';have e24:=cell_later k6 e2';clear hbA hM0 hcl hH0 e1' e2' y1 k6 k6d HWX;go_wp2_with fail
 refine (iNext_any code[pc].1 code[pc].2 pc _ (by omega)).mono ?_;rintro e w5 ⟨ad,ncap,rfl,hI,k7⟩;have hH5:=hH4.mono k7;have hb5:Below w.heap.size w w5:=hb4.trans (k7.mono hb4.size);obtain⟨nx,hnxe⟩:∃nx,nx=nextB code[pc].1 code[pc].2 pc:=⟨_,rfl⟩;have HX:Hid (nx=nextB code[pc].1 code[pc].2 pc):=hnxe;rw[<-hnxe] at hI hnx ⊢;have hnl:nx.length<=2:=by rw[hnxe];exact eV _ _ _
 have HE:Hid (nx.any (fun x=>decide (x=(code.length:Int)))=nx.any (fun x=>decide ((code.length:Int)<=x))):=any_ends fun x hx=>(hnx x hx).2
 clear hH4 hb4 k7 e14 e24 hnxe;go_wp2_with fail
 refine (contains_any ad nx ncap (code.length:Int) _ (by omega) (hI.low (Nat.zero_le _))).mono ?_;rintro e w6 ⟨rfl,hw6⟩;rw[hw6];clear hw6 w6;by_cases hend:nx.any (fun x=>decide (x=(code.length:Int)))=true
 ·have HT:Hid (aW fs code d pc=3):=by
   refine trouble_end hlt HZ.out rfl rfl (by have:=HNN.out;omega) (by have:=HF.out;omega) ?_;rw[<-HX.out,<-HE.out];exact hend
  go_wp2;go_ret
  exact⟨dd HT.out.symm,hb5⟩
 have hend':nx.any (fun x=>decide (x=(code.length:Int)))=false:=by rw[Bool.eq_false_iff];exact hend
 have HN:Hid (nx.any (fun x=>decide ((code.length:Int)<=x))=false):=by show _=_;rw[<-HE.out];exact hend'
 clear hend;go_wp2;clear hend';go_loop [46] (fun i=>∃(q:Nat),q<=nx.length/\i=.int .i64 q/\Hid ((nx.take q).any (fun x=>decide (d.getD x.toNat (-1)≠left))=false)) (fun i=>nx.length-(intOf i).toNat)
 case atStart=>exact⟨0,by omega,rfl,by show _=_;simp⟩
 case round=>
  obtain⟨q,hq,rfl,hno⟩:=hrel;by_cases hlq:q<nx.length
  ·obtain⟨v0,v1⟩:=hnx nx[q] (g_m hlq);obtain⟨nb,no,rfl,hnb,m1⟩:=hI q hlq;obtain⟨nk,hnk⟩:∃nk:Nat,nx[q]=(nk:Int):=⟨nx[q].toNat,by omega⟩;have hin:nk<code.length:=by
    rcases Nat.lt_or_ge nk code.length with h | h
    ·exact h
    ·have:=fq (p:=fun x=>decide ((code.length:Int)<=x)) hlq (by simp;omega);rw[HN.out] at this
     cases this
   rw[hnk] at m1;have hkl:nk<d.length:=by rw[P.len];exact hin
   have m2:=hH5.cell hkl;have hget:d.getD nx[q].toNat (-1)=d[nk]:=by rw[hnk,Int.toNat_natCast];exact P.get hin
   by_cases he:d[nk]=left
   ·have HQ:Hid ((nx.take (q+1)).any (fun x=>decide (d.getD x.toNat (-1)≠left))=false):=ek hlq hno.out (by simp only[hget,he];simp);have b1:(d[nk] != left)=false:=by simp[he]
    clear hno hget hnk he;go_wp2;go_round
    case rel=>exact⟨q+1,by omega,by go_num,HQ⟩
    case measure=>simp[intOf];omega
   ·have HT:Hid (aW fs code d pc=4):=by
     refine trouble_join hlt HZ.out rfl rfl (by have:=HNN.out;omega) (by have:=HF.out;omega) (by rw[<-HX.out];exact HN.out) ?_;rw[<-HX.out,<-HL.out];exact fq (p:=fun x=>decide (d.getD x.toNat (-1)≠left)) hlq (by simp only[hget];simpa using he)
    have b1:(d[nk] != left)=true:=by simpa using he
    clear hno hget hnk he;go_wp2;go_ret
    exact⟨dd HT.out.symm,hb5⟩
  ·have HT:Hid (aW fs code d pc=0):=by
    refine trouble_fine hlt HZ.out rfl rfl (by have:=HNN.out;omega) (by have:=HF.out;omega) (by rw[<-HX.out];exact HN.out) ?_;rw[<-HX.out,<-HL.out];exact gx (by omega) hno.out
   clear hno;go_wp2;go_ret
   exact⟨dd HT.out.symm,hb5⟩
end Go.Proofs.YtbjmgmmekmfjhaaGreatDoor
