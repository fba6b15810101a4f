/- RV17 -/
import Derived.Test.YtbjmgmmekmfjhaaGreatDoorRV16
import Derived.Test.YtbjmgmmekmfjhaaGreatDoorRV15
import Derived.Maps.AppendAt
set_option maxHeartbeats 32000000
set_option maxRecDepth 100000
namespace Go.Proofs.YtbjmgmmekmfjhaaGreatDoor
open Go.RowKit
theorem sVerify_any(a1 a2:Option Addr)(c1 c2:Nat)(ts:List ByteArray)(fs:List Fn)(w:World)(hs:dm ts fs)(hm:bc w 0 a1 ts)(hm2:FnsAt w 0 a2 fs) :
  Calls Tryz.prog 148 #[.agg #[.slice a1 ts.length c1,.slice a2 fs.length c2]] w fun e w'=>∃c f a,e=.returned (.agg #[.int .i64 c,.int .i64 f,.int .i64 a])/\VPost ts fs c f a/\Below w.heap.size w w':=by
 have hn:=hs.funcs;have hbA:Below w.heap.size w ((w.alloc (.cells #[.slice a1 ts.length c1,.slice a2 fs.length c2] 36)).alloc (.cells #[.int .i64 0,.int .i64 0,.int .i64 0] 168)):=(b_r.alloc n_l _).alloc (by simp) _;have hM0:=au (al w #[.slice a1 ts.length c1,.slice a2 fs.length c2] 36) (.cells #[.int .i64 0,.int .i64 0,.int .i64 0] 168);have hR0:=al (w.alloc (.cells #[.slice a1 ts.length c1,.slice a2 fs.length c2] 36)) #[.int .i64 0,.int .i64 0,.int .i64 0] 168;rw[World.size_alloc] at hR0;go_enter Tryz.func148,Tryz.ntmps148
 go_wp2_with fail
 refine (sModuleOk_any _ _ ts fs _ _ _ hs (hm.mono hbA) (hm2.mono hbA)).mono ?_;rintro e w1 ⟨rfl,hb⟩;have hM1:=ah hM0 hb;have hR1:=ah hR0 hb;have hb1:Below w.heap.size w w1:=hbA.trans (hb.mono (by simp;omega));have r1:=ae hR1;have r2:=aq hR1;clear hbA hM0 hR0 hb;by_cases hok:modB ts fs=true
 ·have HO:Hid (modB ts fs=true):=hok;have FF:∀k (hk:k<fs.length),Fine fs fs[k].code:=fun k hk=>dZ hok hk
  go_wp2;clear hok r1 r2;go_loopw [3] (fun i wr=>∃(k:Nat),k<=fs.length/\i=.int .i64 k/\Hid (∀q (hq:q<fs.length),q<k->gt fs fs[q].code fs[q].code.length)/\wr.heap[w.heap.size]?=some (.cells #[.slice a1 ts.length c1,.slice a2 fs.length c2] 36 (0,0))/\wr.heap[w.heap.size+1]?=some (.cells #[.int .i64 0,.int .i64 0,.int .i64 0] 168 (0,0))/\Below w.heap.size w wr) (fun i _=>fs.length-(intOf i).toNat)
  case atStart=>exact⟨0,by omega,rfl,fun _ _ h=>absurd h (Nat.not_lt_zero _),hM1,hR1,hb1⟩
  case round=>
   obtain⟨k,hk,rfl,hcl,hM,hR,hb⟩:=hrel;obtain⟨wo,rfl⟩:∃wo,wo=wr:=⟨_,rfl⟩;clear hM1 hR1 hb1;have y0:=ae hM;by_cases hlt:k<fs.length
   ·have F:=FF k hlt;have hmost:=F.most;obtain⟨b,off,ca,cc,rfl,-,d1,d2,d3,d4⟩:=hm2 k hlt;have d3':=cell_later hb d3;clear d1 d2 d3;go_wp2_with fail
    refine (dj _ _ _ _ _ fs k _ hlt hn (hm2.mono hb) F).mono ?_;rintro e w2 ⟨g,cap,d,rfl,hg,hD,hH,k2⟩;have P:=hD.hts F;have hM2:=ah hM k2;have hR2:=ah hR k2;have hb2:Below w.heap.size w w2:=hb.trans (k2.mono hb.size);clear k2 d3' hM hR hb y0;go_wp2;go_loopw [6] (fun i ws=>∃(j:Nat),j<=fs[k].code.length/\i=.int .i64 j/\Hid (∀q,q<j->aW fs fs[k].code d q=0)/\Ht ws g cap d/\ws.heap[w.heap.size]?=some (.cells #[.slice a1 ts.length c1,.slice (some ⟨b,off,none⟩) fs.length c2] 36 (0,0))/\ws.heap[w.heap.size+1]?=some (.cells #[.int .i64 0,.int .i64 0,.int .i64 0] 168 (0,0))/\Below w.heap.size w ws) (fun i _=>fs[k].code.length-(intOf i).toNat)
    case atStart=>exact⟨0,by omega,rfl,fun _ h=>absurd h (Nat.not_lt_zero _),hH,hM2,hR2,hb2⟩
    case round=>
     obtain⟨j,hj,rfl,hno,hH3,hM3,hR3,hb3⟩:=hrel;obtain⟨ws,rfl⟩:∃ws,ws=wr:=⟨_,rfl⟩;clear hH hM2 hR2 hb2;by_cases hlj:j<fs[k].code.length
     ·have hlen:j<d.length:=by rw[P.len];exact hlj
      have HZ:Hid (d.getD j (-1)=d[j]):=P.get hlj;have z0:=P.low j hlen;have z1:=P.high j hlen;have hcell:=hH3.cell hlen;by_cases hneg:d[j]<0
      ·have HT:Hid (aW fs fs[k].code d j=0):=trouble_none hlj HZ.out hneg;go_wp2;go_roundw
       case rel=>exact⟨j+1,by omega,by go_num,fun q hq=>(by
        by_cases e:q=j
        ·subst e;exact HT.out
        ·exact hno.out q (by omega)),hH3,hM3,hR3,hb3⟩
       case measure=>simp[intOf];omega
      have HNN:Hid (0<=d[j]):=(show 0<=d[j] by omega)
      obtain⟨cb,co,rfl,-,e1,e2⟩:=d4 j hlj;have e1':=cell_later hb3 e1;have e2':=cell_later hb3 e2;have y1:=ae hM3;obtain⟨u0,u1,u2,u3⟩:=dO F.params fs[k].code[j].1 fs[k].code[j].2;clear e1 e2;go_wp2
      go_region_held3 (fun w'=>w'.cell? ⟨w.heap.size,0,none⟩=some (.slice a1 ts.length c1)/\w'.cell? ⟨w.heap.size,1,none⟩=some (.slice (some ⟨b,off,none⟩) fs.length c2)/\w'.cell? ⟨cb,co+j*2,none⟩=some (.int .i64 fs[k].code[j].1)/\w'.cell? ⟨cb,co+j*2+1,none⟩=some (.int .i64 fs[k].code[j].2))
       (first | exact⟨(y1 0).trans rfl,(y1 1).trans rfl,e1',e2'⟩ | exact⟨ckb hM3 k6 rfl,ckb hM3 k6 rfl,cell_later k6 e1',cell_later k6 e2'⟩)
       (first | (go_at_call 197;refine (sUses_any _ _ _ _ _ fs fs[k].code[j].1 fs[k].code[j].2 _ hn (by exact hm2.mono hb3.drew)).mono ?_;rintro e w4 ⟨rfl,k6d⟩;have k6:=bS k6d))
      have hM4:=ah hM3 k6;have hR4:=ah hR3 k6;have hH4:=hH3.mono k6;have hb4:Below w.heap.size w w4:=hb3.trans (k6.mono hb3.size);have hcell4:=hH4.cell hlen;have e14:=cell_later k6 e1';have e24:=cell_later k6 e2';clear hM3 hR3 hH3 hb3 hcell y1 e1' e2' k6 k6d;by_cases hfit:d[j]<(aM fs fs[k].code[j].1 fs[k].code[j].2).1\/16<d[j]-(aM fs fs[k].code[j].1 fs[k].code[j].2).1+(aM fs fs[k].code[j].1 fs[k].code[j].2).2
      ·have HT:Hid (aW fs fs[k].code d j=2):=trouble_stack hlj HZ.out rfl rfl (by have:=HNN.out;omega) hfit;have r4:=ae hR4;have q4:=aq hR4;rcases (show d[j]<(aM fs fs[k].code[j].1 fs[k].code[j].2).1\/((aM fs fs[k].code[j].1 fs[k].code[j].2).1<=d[j]/\16<d[j]-(aM fs fs[k].code[j].1 fs[k].code[j].2).1+(aM fs fs[k].code[j].1 fs[k].code[j].2).2) by omega) with hx | ⟨hx,hy⟩
       all_goals
        clear hfit;go_wp2;have rr:=ae (cB (x:=2) (y:=(k:Int)) (z:=(j:Int)) hR4);refine bodyPost_ret (v:=.agg #[.int .i64 2,.int .i64 (k:Int),.int .i64 (j:Int)]) (by simp[results,Tryz.results148,go_sem,rr]) rfl ⟨2,(k:Int),(j:Int),rfl,.inr ⟨HO.out,.inr ⟨k,hlt,j,d,rfl,rfl,hlj,hD,HT.out,by decide,dL hD hno.out,hcl.out⟩⟩,?_⟩;exact ((hb4.setCell (by simp) _).setCell (by simp) _).setCell (by simp) _
      obtain⟨left,hleft⟩:∃left,left=d[j]-(aM fs fs[k].code[j].1 fs[k].code[j].2).1+(aM fs fs[k].code[j].1 fs[k].code[j].2).2:=⟨_,rfl⟩;have HL:Hid (left=d[j]-(aM fs fs[k].code[j].1 fs[k].code[j].2).1+(aM fs fs[k].code[j].1 fs[k].code[j].2).2):=hleft;have hx:(aM fs fs[k].code[j].1 fs[k].code[j].2).1<=d[j]:=by omega
      have hy:d[j]-(aM fs fs[k].code[j].1 fs[k].code[j].2).1+(aM fs fs[k].code[j].1 fs[k].code[j].2).2<=16:=by omega
      have HF:Hid ((aM fs fs[k].code[j].1 fs[k].code[j].2).1<=d[j]/\d[j]-(aM fs fs[k].code[j].1 fs[k].code[j].2).1+(aM fs fs[k].code[j].1 fs[k].code[j].2).2<=16):=⟨hx,hy⟩;have hnx:=fT F hlj;clear hfit hleft;go_wp2_with fail
      rw[<-HL.out];refine (sNext_any fs[k].code[j].1 fs[k].code[j].2 j _ (by omega)).mono ?_;rintro e w5 ⟨ad,ncap,rfl,hI,k7⟩;have hM5:=ah hM4 k7;have hR5:=ah hR4 k7;have hH5:=hH4.mono k7;have hb5:Below w.heap.size w w5:=hb4.trans (k7.mono hb4.size);have r5:=ae hR5;have q5:=aq hR5;obtain⟨nx,hnxe⟩:∃nx,nx=nextB fs[k].code[j].1 fs[k].code[j].2 j:=⟨_,rfl⟩;have HX:Hid (nx=nextB fs[k].code[j].1 fs[k].code[j].2 j):=hnxe;rw[<-hnxe] at hI hnx ⊢;have hnl:nx.length<=2:=by rw[hnxe];exact eV _ _ _
      clear hM4 hR4 hH4 hb4 k7 hcell4 e14 e24 hnxe;go_wp2;go_loop [11] (fun i=>∃(q:Nat),q<=nx.length/\i=.int .i64 q/\Hid ((nx.take q).any (fun x=>decide ((fs[k].code.length:Int)<=x))=false)) (fun i=>nx.length-(intOf i).toNat)
      case atStart=>exact⟨0,by omega,rfl,by show _=_;simp⟩
      case round=>
       obtain⟨q,hq,rfl,hqn⟩:=hrel;by_cases hlq:q<nx.length
       ·obtain⟨v0,v1⟩:=hnx nx[q] (g_m hlq);obtain⟨nb,no,rfl,hnb,m1⟩:=hI q hlq;by_cases hend:(fs[k].code.length:Int)<=nx[q]
        ·have HT:Hid (aW fs fs[k].code d j=3):=by
          refine trouble_end hlj HZ.out rfl rfl (by have:=HNN.out;omega) (by have:=HF.out;omega) ?_;rw[<-HX.out];exact fq (p:=fun x=>decide ((fs[k].code.length:Int)<=x)) hlq (by simpa using hend)
         clear hqn;go_wp2;have rr:=ae (cB (x:=3) (y:=(k:Int)) (z:=(j:Int)) hR5);refine bodyPost_ret (v:=.agg #[.int .i64 3,.int .i64 (k:Int),.int .i64 (j:Int)]) (by simp[results,Tryz.results148,go_sem,rr]) rfl ⟨3,(k:Int),(j:Int),rfl,.inr ⟨HO.out,.inr ⟨k,hlt,j,d,rfl,rfl,hlj,hD,HT.out,by decide,dL hD hno.out,hcl.out⟩⟩,?_⟩;exact ((hb5.setCell (by simp) _).setCell (by simp) _).setCell (by simp) _
        ·have HQ:Hid ((nx.take (q+1)).any (fun x=>decide ((fs[k].code.length:Int)<=x))=false):=ek hlq hqn.out (by simpa using hend);clear hqn;go_wp2;go_round
         case rel=>exact⟨q+1,by omega,by go_num,HQ⟩
         case measure=>simp[intOf];omega
       ·have HN:Hid (nx.any (fun x=>decide ((fs[k].code.length:Int)<=x))=false):=gx (by omega) hqn.out;clear hqn;go_wp2;go_loop [12] (fun i=>∃(q:Nat),q<=nx.length/\i=.int .i64 q/\Hid ((nx.take q).any (fun x=>decide (d.getD x.toNat (-1)≠left))=false)) (fun i=>nx.length-(intOf i).toNat)
        case atStart=>exact⟨0,by omega,rfl,by show _=_;simp⟩
        case round=>
         obtain⟨p,hp,rfl,hpn⟩:=hrel;by_cases hlp:p<nx.length
         ·obtain⟨v0,v1⟩:=hnx nx[p] (g_m hlp);obtain⟨nb,no,rfl,hnb,m1⟩:=hI p hlp;obtain⟨nk,hnk⟩:∃nk:Nat,nx[p]=(nk:Int):=⟨nx[p].toNat,by omega⟩;have hin:nk<fs[k].code.length:=by
           rcases Nat.lt_or_ge nk fs[k].code.length with h | h
           ·exact h
           ·have:=fq (p:=fun x=>decide ((fs[k].code.length:Int)<=x)) hlp (by simp;omega);rw[HN.out] at this
            cases this
          rw[hnk] at m1;have hkl:nk<d.length:=by rw[P.len];exact hin
          have m2:=hH5.cell hkl;have hget:d.getD nx[p].toNat (-1)=d[nk]:=by rw[hnk,Int.toNat_natCast];exact P.get hin
          by_cases he:d[nk]=left
          ·have HQ:Hid ((nx.take (p+1)).any (fun x=>decide (d.getD x.toNat (-1)≠left))=false):=ek hlp hpn.out (by simp only[hget,he];simp);have b1:(d[nk] != left)=false:=by simp[he]
           clear hpn hget hnk he;go_wp2;go_round
           case rel=>exact⟨p+1,by omega,by go_num,HQ⟩
           case measure=>simp[intOf];omega
          ·have HT:Hid (aW fs fs[k].code d j=4):=by
            refine trouble_join hlj HZ.out rfl rfl (by have:=HNN.out;omega) (by have:=HF.out;omega) (by rw[<-HX.out];exact HN.out) ?_;rw[<-HX.out,<-HL.out];exact fq (p:=fun x=>decide (d.getD x.toNat (-1)≠left)) hlp (by simp only[hget];simpa using he)
           have b1:(d[nk] != left)=true:=by simpa using he
           clear hpn hget hnk he;go_wp2;have rr:=ae (cB (x:=4) (y:=(k:Int)) (z:=(j:Int)) hR5);refine bodyPost_ret (v:=.agg #[.int .i64 4,.int .i64 (k:Int),.int .i64 (j:Int)]) (by simp[results,Tryz.results148,go_sem,rr]) rfl ⟨4,(k:Int),(j:Int),rfl,.inr ⟨HO.out,.inr ⟨k,hlt,j,d,rfl,rfl,hlj,hD,HT.out,by decide,dL hD hno.out,hcl.out⟩⟩,?_⟩;exact ((hb5.setCell (by simp) _).setCell (by simp) _).setCell (by simp) _
         ·have HT:Hid (aW fs fs[k].code d j=0):=by
           refine trouble_fine hlj HZ.out rfl rfl (by have:=HNN.out;omega) (by have:=HF.out;omega) (by rw[<-HX.out];exact HN.out) ?_;rw[<-HX.out,<-HL.out];exact gx (by omega) hpn.out
          clear hpn;go_wp2;go_roundw
          case rel=>exact⟨j+1,by omega,by go_num,fun q hq=>(by
           by_cases e:q=j
           ·subst e;exact HT.out
           ·exact hno.out q (by omega)),hH5,hM5,hR5,hb5⟩
          case measure=>simp[intOf];omega
     ·have hjn:j=fs[k].code.length:=by omega
      subst hjn;go_wp2;go_roundw
      case rel=>exact⟨k+1,by omega,by go_num,fun q hq hqk=>(by
        by_cases e:q=k
        ·subst e;exact dL hD hno.out
        ·exact hcl.out q hq (by omega)),hM3,hR3,hb3⟩
      case measure=>simp[intOf];omega
   ·have r4:=ae hR;have q4:=aq hR;go_wp2;have rr:=ae (cB (x:=0) (y:=0) (z:=0) hR);refine bodyPost_ret (v:=.agg #[.int .i64 0,.int .i64 0,.int .i64 0]) (by simp[results,Tryz.results148,go_sem,rr]) rfl ⟨0,0,0,rfl,.inr ⟨HO.out,.inl ⟨rfl,rfl,rfl,fun q hq=>hcl.out q hq (by omega)⟩⟩,?_⟩;exact ((hb.setCell (by simp) _).setCell (by simp) _).setCell (by simp) _
 ·have hok':modB ts fs=false:=by simpa using hok
  have HO:Hid (modB ts fs=false):=hok';clear hok;go_wp2;have rr:=ae (cB (x:=1) (y:=0) (z:=0) hR1);refine bodyPost_ret (v:=.agg #[.int .i64 1,.int .i64 0,.int .i64 0]) (by simp[results,Tryz.results148,go_sem,rr]) rfl ⟨1,0,0,rfl,.inl ⟨HO.out,rfl,rfl,rfl⟩,?_⟩;exact ((hb1.setCell (by simp) _).setCell (by simp) _).setCell (by simp) _
def Good (ts:List ByteArray)(fs:List Fn):Prop:=∃f a,VPost ts fs 0 f a
theorem VPost.good{ts:List ByteArray}{fs:List Fn}{c f a:Int}(h:VPost ts fs c f a):c=0↔Good ts fs:=
 ⟨fun e=>by subst e;exact⟨f,a,h⟩,fun ⟨f',a',h'⟩=>(h.one h').1⟩
theorem szModule_le(a a2:Option Addr)(ts:List ByteArray)(fs:List Fn)(cap cap2:Nat)(w:World)(hn:ts.length<=maxLen)(hc:∀s∈ts,s.size<=maxLen)(hm:bc w 0 a ts)
  (hn2:fs.length<=maxLen)(hc2:∀f∈fs,f.code.length<=maxLen)(hm2:FnsAt w 0 a2 fs) :
  Calls Tryz.prog 7 #[.agg #[.slice a ts.length cap,.slice a2 fs.length cap2],.int .i64 1048576] w fun e w'=>∃r:Int,e=.returned (.int .i64 r)/\r<=1048576/\(0<=r->dm ts fs)/\Below w.heap.size w w':=by
 go_enter Tryz.func7,Tryz.ntmps7
 go_wp2_with fail
 refine (szStringS_any a ts cap 1048576 _ (by omega) (by omega) hn hc (hm.mono (b_r.alloc n_l _))).mono ?_;rintro e w1 ⟨r,rfl,hr,hs,hb⟩;have hb1:Below w.heap.size w w1:=(b_r.alloc n_l _).trans (hb.mono (by simp));obtain⟨hx,hf⟩:w1.cell? ⟨w.heap.size,0,none⟩=some (.slice a ts.length cap)/\w1.cell? ⟨w.heap.size,1,none⟩=some (.slice a2 fs.length cap2):=by
  constructor
  ·exact cell_later hb (dJ _ _ _ 0)
  ·exact cell_later hb (dJ _ _ _ 1)
 by_cases h0:r<0
 ·go_wp2_with fail
  go_ret
  exact⟨_,rfl,by omega,by omega,hb1⟩
 ·go_wp2_with fail
  refine (szFuncS_any a2 fs cap2 r _ (by omega) (by omega) hn2 hc2 (hm2.mono hb1)).mono ?_;rintro e w2 ⟨r2,rfl,hr2,hs2,hb2⟩;have hb3:Below w.heap.size w w2:=hb1.trans (hb2.mono hb1.size);by_cases h2:r2<0
  ·go_wp2_with fail
   go_ret
   exact⟨_,rfl,by omega,by omega,hb3⟩
  ·go_wp2_with fail
   go_ret
   exact⟨_,rfl,by omega,fun _=>⟨(hs (by omega)).1,(hs (by omega)).2,(hs2 (by omega)).1,(hs2 (by omega)).2⟩,hb3⟩
theorem sGood_any(a1 a2:Option Addr)(c1 c2:Nat)(ts:List ByteArray)(fs:List Fn)(w:World)(hs:dm ts fs)(hst:bc w 0 a1 ts)(hfn:FnsAt w 0 a2 fs) :
  Calls Tryz.prog 95 #[.agg #[.slice a1 ts.length c1,.slice a2 fs.length c2]] w fun e w'=>e=.returned (.bool (pB (Good ts fs)))/\Below w.heap.size w w':=by
 have hbA:Below w.heap.size w (w.alloc (.cells #[.slice a1 ts.length c1,.slice a2 fs.length c2] 36)):=b_r.alloc n_l _;go_enter Tryz.func95,Tryz.ntmps95
 go_wp2_with fail
 refine (sVerify_any _ _ _ _ ts fs _ hs (hst.mono hbA) (hfn.mono hbA)).mono ?_;rintro e w1 ⟨c,f,a,rfl,hV,hb⟩;have HG:Hid (c=0↔Good ts fs):=hV.good;clear hV;have hfld:(Instr.field 168 (.agg #[.int .i64 c,.int .i64 f,.int .i64 a]) 0).run Tryz.prog w1=.ok (.int .i64 c) w1:=by kernel_rfl
 go_wp2;go_ret
 refine⟨ax ?_,hbA.trans (hb.mono hbA.size)⟩;by_cases h:Good ts fs
 ·rw[aL h,HG.out.2 h];rfl
 ·rw[aJ h];simpa using fun e=>h (HG.out.1 e)
def LP (code:List (Int×Int))(d:List Int):Nat->Nat->Prop
 | 0,j=>j=0
 | k+1,j=>LP code d k j\/(isJ code d k/\((j:Int)=(code.getD k (0,0)).2\/((code.getD k (0,0)).1≠17/\j=k+1)))
def HP (code:List (Int×Int))(d:List Int):Nat->Nat->Prop
 | 0,_=>False
 | k+1,j=>HP code d k j\/(isJ code d k/\(code.getD k (0,0)).2<=k/\(j:Int)=(code.getD k (0,0)).2)
structure GJ (code:List (Int×Int))(d:List Int):Prop where
 one:1<=code.length
 most:code.length<=120
 jump:∀k,k<code.length->isJ code d k->0<=(code.getD k (0,0)).2/\(code.getD k (0,0)).2<code.length/\((code.getD k (0,0)).1≠17->k+1<code.length)
theorem HP.lt{code:List (Int×Int)}{d:List Int}(G:GJ code d){k j:Nat}(hk:k<=code.length)(h:HP code d k j):j<code.length:=by
 induction k with
 | zero=>exact h.elim
 | succ k ih=>
  rcases h with h | ⟨h1,h2,h3⟩
  ·exact ih (by omega) h
  ·have:=G.jump k (by omega) h1;omega
theorem fstep_lo{st:(Nat×Nat)×(Nat×Nat)}{x:Jp}{j:Nat}(hj:j<128):bhas (dt st x).1 j=true↔bhas st.1 j=true\/j=x.a\/(x.op≠17/\j=x.at'+1):=by
 unfold dt;dsimp only
 have h1:=x.h1;have h2:=x.h2;by_cases h:x.op=17
 ·rw[if_pos h,eH h2 hj,Bool.or_eq_true,decide_eq_true_eq];constructor
  ·rintro (h | h)
   ·exact .inl h
   ·exact .inr (.inl h.symm)
  ·rintro (h' | h' | ⟨h',-⟩)
   ·exact .inl h'
   ·exact .inr h'.symm
   ·exact absurd h h'
 ·rw[if_neg h,eH h1 hj,eH h2 hj,Bool.or_eq_true,Bool.or_eq_true,decide_eq_true_eq,decide_eq_true_eq];constructor
  ·rintro ((h' | h') | h')
   ·exact .inl h'
   ·exact .inr (.inl h'.symm)
   ·exact .inr (.inr ⟨h,h'.symm⟩)
  ·rintro (h' | h' | ⟨-,h'⟩)
   ·exact .inl (.inl h')
   ·exact .inl (.inr h'.symm)
   ·exact .inr h'.symm
theorem fstep_hi{st:(Nat×Nat)×(Nat×Nat)}{x:Jp}{j:Nat}(hj:j<128):bhas (dt st x).2 j=true↔bhas st.2 j=true\/(x.a<=x.at'/\j=x.a):=by
 unfold dt;dsimp only
 have h2:=x.h2;by_cases h:x.a<=x.at'
 ·rw[if_pos h,eH h2 hj,Bool.or_eq_true,decide_eq_true_eq];constructor
  ·rintro (h' | h')
   ·exact .inl h'
   ·exact .inr ⟨h,h'.symm⟩
  ·rintro (h' | ⟨-,h'⟩)
   ·exact .inl h'
   ·exact .inr h'.symm
 ·rw[if_neg h];constructor
  ·exact .inl
  ·rintro (h' | ⟨h',-⟩)
   ·exact h'
   ·exact absurd h' h
theorem fQ{code:List (Int×Int)}{k:Nat}(hk:k<code.length):code.getD k (0,0)=code[k]:=by rw[List.getD_eq_getElem?_getD,List.getElem?_eq_getElem hk];rfl
theorem flow_bits{code:List (Int×Int)}{d:List Int}(HJ:JOk code){k:Nat}(hk:k<=code.length):∀j,j<128->(bhas (flowB (jl code d k)).1 j=true↔LP code d k j)/\(bhas (flowB (jl code d k)).2 j=true↔HP code d k j):=by
 induction k with
 | zero=>
  intro j hj;refine⟨?_,?_⟩
  ·show bhas (1,0) j=true↔j=0
   have:=eH (s:=(0,0)) (k:=0) (j:=j) (by decide) hj;rw[show bw (0,0) 0=(1,0) from rfl,bhas_zero,Bool.false_or] at this
   rw[this,decide_eq_true_eq];exact eq_comm
  ·show bhas (0,0) j=true↔False
   rw[bhas_zero];simp
 | succ k ih=>
  intro j hj;obtain⟨i1,i2⟩:=ih (by omega) j hj;by_cases h:isJ code d k
  ·obtain⟨x,hx1,hx2,hx3,hx4⟩:=jl_yes HJ (by omega) h;rw[hx4,flowB_snoc];have e:=fQ (code:=code) (k:=k) (by omega);refine⟨?_,?_⟩
   ·rw[fstep_lo hj,i1];show _↔LP code d k j\/(isJ code d k/\((j:Int)=(code.getD k (0,0)).2\/((code.getD k (0,0)).1≠17/\j=k+1)))
    rw[e,<-hx2,<-hx3,hx1];constructor
    ·rintro (h' | h' | h')
     ·exact .inl h'
     ·exact .inr ⟨h,.inl (by omega)⟩
     ·exact .inr ⟨h,.inr h'⟩
    ·rintro (h' | ⟨-,h' | h'⟩)
     ·exact .inl h'
     ·exact .inr (.inl (by omega))
     ·exact .inr (.inr h')
   ·rw[fstep_hi hj,i2];show _↔HP code d k j\/(isJ code d k/\(code.getD k (0,0)).2<=k/\(j:Int)=(code.getD k (0,0)).2)
    rw[e,<-hx3,hx1];constructor
    ·rintro (h' | h')
     ·exact .inl h'
     ·exact .inr ⟨h,by omega,by omega⟩
    ·rintro (h' | ⟨-,h1,h2⟩)
     ·exact .inl h'
     ·exact .inr ⟨by omega,by omega⟩
  ·rw[jl_no h,i1,i2];exact⟨⟨.inl,fun h'=>h'.elim id (fun h'=>absurd h'.1 h)⟩,⟨.inl,fun h'=>h'.elim id (fun h'=>absurd h'.1 h)⟩⟩
noncomputable def lst (P:Nat->Prop) (n:Nat):List Nat:=(List.range n).filter fun j=>pB (P j)
noncomputable def lstI (P:Nat->Prop) (n:Nat):List Int:=(lst P n).map fun (j:Nat)=>(j:Int)
theorem eI{P:Nat->Prop}{k:Nat}(h:P k):lst P (k+1)=lst P k++[k]:=by simp[lst,List.range_succ,aL h]
theorem gn{P:Nat->Prop}{k:Nat}(h:¬P k):lst P (k+1)=lst P k:=by simp[lst,List.range_succ,aJ h]
theorem lstI_yes{P:Nat->Prop}{k:Nat}(h:P k):lstI P (k+1)=lstI P k++[(k:Int)]:=by simp[lstI,eI h]
theorem lstI_no{P:Nat->Prop}{k:Nat}(h:¬P k):lstI P (k+1)=lstI P k:=by simp[lstI,gn h]
theorem fE(P:Nat->Prop)(n:Nat):(lst P n).length<=n:=by
 have:=List.length_filter_le (fun j=>pB (P j)) (List.range n);simpa[lst] using this
theorem eT(P:Nat->Prop)(n:Nat):(lstI P n).length<=n:=by simpa[lstI] using fE P n
theorem gy{P:Nat->Prop}{n j:Nat}:j∈lst P n↔j<n/\P j:=by
 unfold lst;rw[List.mem_filter,List.mem_range];constructor
 ·rintro⟨h1,h2⟩;refine⟨h1,?_⟩;by_cases h:P j
  ·exact h
  ·rw[aJ h] at h2;cases h2
 ·rintro⟨h1,h2⟩;exact⟨h1,aL h2⟩
theorem gj_of{ts:List ByteArray}{fs:List Fn}(hG:Good ts fs){f:Nat}(hf:f<fs.length){d:List Int}(hD:Done fs fs[f].code d):GJ fs[f].code d/\JOk fs[f].code/\modB ts fs=true:=by
 obtain⟨f',a',hV⟩:=hG;rcases hV with ⟨-,h,-⟩ | ⟨hm,hT⟩
 ·cases h
 have F:=dZ hm hf;have hc:gt fs fs[f].code fs[f].code.length:=by
  rcases hT with ⟨-,-,-,h⟩ | ⟨g,hg,k,d',-,-,-,-,-,h,-⟩
  ·exact h f hf
  ·exact absurd rfl h
 refine⟨⟨F.one,F.most,fun k hk hj=>?_⟩,⟨F.most,fun k hk hj=>?_⟩,hm⟩
 ·have e:=fQ (code:=fs[f].code) hk;have H:=hD.hts F;obtain⟨h1,h2⟩:=hj;rw[e] at h2 ⊢;have hjp:=F.jump k hk h2;refine⟨hjp.1,hjp.2,fun h17=>?_⟩;have ht:=hc d hD k hk;unfold aW at ht;simp only[e] at ht
  have hdk:¬d.getD k (-1)<0:=by
   rw[H.get hk] at h1 ⊢;have:=H.low k (by rw[H.len];exact hk);omega
  rw[if_neg hdk] at ht;split at ht
  ·cases ht
  split at ht
  ·cases ht
  rename_i hno
  simp only[List.any_eq_true,not_exists,not_and,decide_eq_true_eq] at hno
  have:=hno ((k:Int)+1) (by unfold nextB;rw[if_neg (by omega),if_neg h17,if_pos (by omega)];simp);omega
 ·have e:=fQ (code:=fs[f].code) hk;rw[e] at hj ⊢;have:=F.jump k hk hj;have:=F.most;omega
end Go.Proofs.YtbjmgmmekmfjhaaGreatDoor
namespace Go.Proofs.YtbjmgmmekmfjhaaGreatDoor
open Go.RowKit Go.Shelf
attribute [local go_sem] Oper.semAt_some
def In (s:Nat×Nat)(j:Nat):Prop:=bhas s j=true
theorem lst_skip{P:Nat->Prop}{a:Nat}:∀(n:Nat),(∀j,a<=j->j<a+n->¬P j)->lst P (a+n)=lst P a
 | 0,_=>rfl
 | n+1,h=>by
  have h1:=lst_skip n (fun j h1 h2=>h j h1 (by omega));rw[<-Nat.add_assoc,gn (h _ (by omega) (by omega)),h1]
theorem gJ{P:Nat->Prop}{a b:Nat}(hab:a<=b)(h:∀j,a<=j->j<b->¬P j):lst P b=lst P a:=by
 have:=lst_skip (P:=P) (a:=a) (b-a) (fun j h1 h2=>h j h1 (by omega));rwa [show a+(b-a)=b by omega] at this
def cQ (s:Nat×Nat)(i:Nat):Nat:=if i=0 then s.1 else s.2
theorem gp{s:Nat×Nat}{i j:Nat}(hi:i<2)(hj:j<64):In s (64*i+j)↔(cQ s i).testBit j=true:=by
 unfold In bhas cQ;rcases (show i=0\/i=1 by omega) with rfl | rfl
 ·rw[if_pos (by omega),if_pos rfl,Nat.mul_zero,Nat.zero_add]
 ·rw[if_neg (by omega),if_neg (by omega),show 64*1+j-64=j by omega]
def From (x y p:Nat):Prop:=∀j,y.testBit j=(decide (p<=j) && x.testBit j)
theorem From.done{s:Nat×Nat}{i p:Nat}(h:From (cQ s i) 0 p)(hi:i<2)(hp:p<=64):lst (In s) (64*(i+1))=lst (In s) (64*i+p):=
 gJ (by omega) (fun j h1 h2 hin=>by
  obtain⟨q,rfl⟩:∃q,j=64*i+q:=⟨j-64*i,by omega⟩;have h3:=(gp hi (by omega)).1 hin;have h4:=h q;rw[Nat.zero_testBit,h3,decide_eq_true (by omega)] at h4
  cases h4)
theorem From.step{s:Nat×Nat}{i p k m:Nat}(h:From (cQ s i) (2 ^ (k+1)*m+2 ^ k) p)(hi:i<2)(hk:k<64) :
  lst (In s) (64*i+(k+1))=lst (In s) (64*i+p)++[64*i+k]/\From (cQ s i) ((2 ^ (k+1)*m+2 ^ k) &&& (2 ^ (k+1)*m+2 ^ k-1)) (k+1):=by
 have hk1:=h k;rw[eR,if_pos (by omega),decide_eq_true rfl] at hk1;have hx:(decide (p<=k) && (cQ s i).testBit k)=true:=hk1.symm;rw[Bool.and_eq_true,decide_eq_true_eq] at hx;refine⟨?_,fun j=>?_⟩
 ·rw[show 64*i+(k+1)=64*i+k+1 by omega,eI ((gp hi hk).2 hx.2)]
  congr 1
  refine gJ (by omega) (fun j h1 h2 hin=>?_);obtain⟨q,rfl⟩:∃q,j=64*i+q:=⟨j-64*i,by omega⟩;have h3:=(gp hi (by omega)).1 hin;have h4:=h q;rw[eR,if_pos (by omega),decide_eq_false (show ¬k=q by omega),h3,decide_eq_true (show p<=q by omega)] at h4
  cases h4
 ·rw[clear_low,h j];by_cases hj:k<j
  ·rw[decide_eq_true hj,decide_eq_true (show p<=j by omega),decide_eq_true (show k+1<=j by omega)]
   simp
  ·rw[decide_eq_false hj,decide_eq_false (show ¬k+1<=j by omega)]
   simp
theorem wrap_less{y:Nat}(h0:y≠0)(h:y<18446744073709551616):IntKind.u64.wrap ((y:Int)-1)=((y-1:Nat):Int):=by
 rw[IntKind.wrap_u64];omega
theorem and_less{y:Nat}(h0:y≠0):y &&& (y-1)<y:=by
 have:y &&& (y-1)<=y-1:=Nat.and_le_right;omega
theorem word_facts{s:Nat×Nat}{i p y:Nat}(h:From (cQ s i) y p)(hi:i<2)(h0:y≠0)(hy:y<2 ^ 64) :
  ∃k m y1 y2:Nat,k<64/\y=2 ^ (k+1)*m+2 ^ k/\IntKind.u64.wrap ((y:Int)-1)=(y1:Int)/\bits .and .u64 (y:Int) (y1:Int)=(y2:Int)/\y2<2 ^ 64/\y2<y /\
   lst (In s) (64*i+(k+1))=lst (In s) (64*i+p)++[64*i+k]/\From (cQ s i) y2 (k+1):=by
 obtain⟨k,m,rfl⟩:=low_form y h0;have hk:=form_lt hy;have hs:=h.step hi hk;refine⟨k,m,_,_,hk,rfl,wrap_less h0 hy,bits_and hy (Nat.lt_of_le_of_lt (Nat.sub_le _ _) hy),?_,and_less h0,hs.1,hs.2⟩;exact Nat.lt_trans (and_less h0) hy
theorem all1_in(n:Nat)(hn:2<=n)(l Bs n₀:Nat)(s:Nat×Nat)(hs:bok s)(J Jx:List Nat->World->Prop)
  (hY:∀pre x W,J pre W->pre.length<128->YieldAt Fence.wide (n-1) Tryz.prog l #[.int .i64 ((x:Nat):Int)] W fun e W'=>
   (e=.returned (.bool true)/\J (pre++[x]) W'/\Below n₀ W W')\/(e=.returned (.bool false)/\Jx (pre++[x]) W'))
  (W:World)(hBs:W.heap[Bs]?=some (.cells #[.int .u64 (s.1:Int),.int .u64 (s.2:Int)] 246 (0,0)))(hD:DB W)(h00:1<n₀)(h0:J [] W) :
  CallsIn Fence.wide n Tryz.prog 267 #[.func (.yield l) #[] #[],.pointer (some ⟨Bs,0,none⟩)] W fun e W'=>(∃v,e=.returned v) /\
   ((∃ys,ys=lst (In s) 128/\J ys W')\/(∃pre,True/\Jx pre W')):=by
 have hDB:∀W',Below n₀ W W'->DB W':=fun W' hb i hi=>(hb.cell (p:=⟨1,i,none⟩) h00).trans (hD i hi)
 have HDB:Hid (∀W',Below n₀ W W'->DB W'):=hDB;have c0:=ae hBs;clear hDB hD;refine callsIn_of_wp Tryz.func267 rfl trivial ?_ rfl;simp only[Tryz.ntmps267,List.size_toArray,List.length_cons,List.length_nil,Nat.reduceAdd,Nat.reduceSub,Array.replicate_succ,Array.replicate_zero,List.push_toArray,List.append_toArray,List.nil_append,List.cons_append]
 gi_wp2
 clear c0 hBs;have HS:Hid (bok s):=hs;clear hs
 gi_loopw [6] (fun i wr=>∃k:Nat,k<=2/\i=.int .i64 k/\J (lst (In s) (64*k)) wr/\Below n₀ W wr)
  (fun i _=>2-(intOf i).toNat)
 case atStart=>exact⟨0,by omega,rfl,h0,Below.refl _ _⟩
 case round=>
  obtain⟨i,hi,rfl,hJs,hnx⟩:=hrel;obtain⟨wo,rfl⟩:∃wo,wo=wr:=⟨_,rfl⟩;by_cases hi2:i<2
  case neg=>
   obtain rfl:i=2:=by omega
   gi_wp2
   go_end0
   exact⟨⟨_,rfl⟩,.inl ⟨_,rfl,hJs⟩⟩
  rcases (show i=0\/i=1 by omega) with rfl | rfl
  ·have HW:Hid (cQ s 0=s.1):=rfl;have hF0:From (cQ s 0) s.1 0:=fun j=>by rw[HW.out];simp
   simp only[show ((0:Nat):Int)=0 from rfl]
   have hix:(Instr.index 246 (.agg #[.int .u64 (s.1:Int),.int .u64 (s.2:Int)]) (.int .i64 0)).run Tryz.prog wo=.ok (.int .u64 (s.1:Int)) wo:=by kernel_rfl
   gi_wp2
   gi_loopw [4] (fun v wq=>∃(y p:Nat),v=.int .u64 (y:Int)/\Hid (y<2 ^ 64)/\p<=64/\From (cQ s 0) y p/\J (lst (In s) (64*0+p)) wq/\Below n₀ W wq) (fun v _=>(intOf v).toNat)
   case atStart=>exact⟨s.1,0,rfl,HS.out.1,by omega,hF0,hJs,hnx⟩
   case round=>
    obtain⟨y,p,rfl,hy,hp,hF,hJ1,hb1⟩:=hrel;obtain⟨wi,rfl⟩:∃wi,wi=wr:=⟨_,rfl⟩;clear hF0 hJs hnx;by_cases hy0:y=0
    ·subst hy0;have HDN:Hid (lst (In s) (64*(0+1))=lst (In s) (64*0+p)):=hF.done (by omega) hp;gi_wp2
     go_roundw
     case rel=>exact⟨0+1,by omega,by go_num,by rw[HDN.out];exact hJ1,hb1⟩
     case measure=>simp[intOf]
    obtain⟨k,m,y1,y2,hk,hform,hsub,hand,hy2,hlt,hlst,hF2⟩:=word_facts hF (by omega) hy0 hy.out;have HFM:Hid (y=2 ^ (k+1)*m+2 ^ k):=hform;have HY2:Hid (y2<2 ^ 64):=hy2;have HL:Hid (lst (In s) (64*0+(k+1))=lst (In s) (64*0+p)++[64*0+k]):=hlst;have hll:=fE (In s) (64*0+p);have hln:(lst (In s) (64*0+p)).length<128:=by
     have h1:=fE (In s) (64*0+(k+1));rw[hlst,List.length_append] at h1;simp only[List.length_cons,List.length_nil] at h1
     omega
    obtain⟨fn,tmps,assign,body,hyy,hR⟩:=hY _ (64*0+k) wi hJ1 hln;have hyz:((64*0+k:Nat):Int)=(k:Int):=by omega
    rw[hyz] at hyy;have hy0':((y:Int) != 0)=true:=by
     have h:¬(y:Int)=0:=by omega
     simpa using h
    clear hform hy2 hlst hln hll hyz;gi_wp2
    refine⟨trivial,fun _=>by omega,?_⟩;refine (callsIn_wide.2 (tz_any y k m _ HFM.out hy.out (HDB.out _ hb1))).mono ?_;rintro e w1 ⟨rfl,rfl⟩;gi_wp2
    refine⟨fun _=>by omega,?_⟩;refine hR.mono ?_;rintro e W3 (⟨rfl,hJ3,hk3⟩ | ⟨rfl,hJx3⟩)
    ·gi_wp2
     go_roundw
     case rel=>exact⟨y2,k+1,rfl,HY2.out,by omega,hF2,by rw[HL.out];exact hJ3,hb1.trans hk3⟩
     case measure=>simpa[intOf] using hlt
    ·gi_wp2
     refine bodyPost_ret (results_none rfl _ _ _) rfl ?_;exact⟨⟨_,rfl⟩,.inr ⟨_,trivial,hJx3⟩⟩
  ·have HW:Hid (cQ s 1=s.2):=rfl;have hF0:From (cQ s 1) s.2 0:=fun j=>by rw[HW.out];simp
   simp only[show ((1:Nat):Int)=1 from rfl]
   have hix:(Instr.index 246 (.agg #[.int .u64 (s.1:Int),.int .u64 (s.2:Int)]) (.int .i64 1)).run Tryz.prog wo=.ok (.int .u64 (s.2:Int)) wo:=by kernel_rfl
   gi_wp2
   gi_loopw [4] (fun v wq=>∃(y p:Nat),v=.int .u64 (y:Int)/\Hid (y<2 ^ 64)/\p<=64/\From (cQ s 1) y p/\J (lst (In s) (64*1+p)) wq/\Below n₀ W wq) (fun v _=>(intOf v).toNat)
   case atStart=>exact⟨s.2,0,rfl,HS.out.2,by omega,hF0,hJs,hnx⟩
   case round=>
    obtain⟨y,p,rfl,hy,hp,hF,hJ1,hb1⟩:=hrel;obtain⟨wi,rfl⟩:∃wi,wi=wr:=⟨_,rfl⟩;clear hF0 hJs hnx;by_cases hy0:y=0
    ·subst hy0;have HDN:Hid (lst (In s) (64*(1+1))=lst (In s) (64*1+p)):=hF.done (by omega) hp;gi_wp2
     go_roundw
     case rel=>exact⟨1+1,by omega,by go_num,by rw[HDN.out];exact hJ1,hb1⟩
     case measure=>simp[intOf]
    obtain⟨k,m,y1,y2,hk,hform,hsub,hand,hy2,hlt,hlst,hF2⟩:=word_facts hF (by omega) hy0 hy.out;have HFM:Hid (y=2 ^ (k+1)*m+2 ^ k):=hform;have HY2:Hid (y2<2 ^ 64):=hy2;have HL:Hid (lst (In s) (64*1+(k+1))=lst (In s) (64*1+p)++[64*1+k]):=hlst;have hll:=fE (In s) (64*1+p);have hln:(lst (In s) (64*1+p)).length<128:=by
     have h1:=fE (In s) (64*1+(k+1));rw[hlst,List.length_append] at h1;simp only[List.length_cons,List.length_nil] at h1
     omega
    obtain⟨fn,tmps,assign,body,hyy,hR⟩:=hY _ (64*1+k) wi hJ1 hln;have hyz:((64*1+k:Nat):Int)=64+(k:Int):=by omega
    rw[hyz] at hyy;have hy0':((y:Int) != 0)=true:=by
     have h:¬(y:Int)=0:=by omega
     simpa using h
    clear hform hy2 hlst hln hll hyz;gi_wp2
    refine⟨trivial,fun _=>by omega,?_⟩;refine (callsIn_wide.2 (tz_any y k m _ HFM.out hy.out (HDB.out _ hb1))).mono ?_;rintro e w1 ⟨rfl,rfl⟩;gi_wp2
    refine⟨fun _=>by omega,?_⟩;refine hR.mono ?_;rintro e W3 (⟨rfl,hJ3,hk3⟩ | ⟨rfl,hJx3⟩)
    ·gi_wp2
     go_roundw
     case rel=>exact⟨y2,k+1,rfl,HY2.out,by omega,hF2,by rw[HL.out];exact hJ3,hb1.trans hk3⟩
     case measure=>simpa[intOf] using hlt
    ·gi_wp2
     refine bodyPost_ret (results_none rfl _ _ _) rfl ?_;exact⟨⟨_,rfl⟩,.inr ⟨_,trivial,hJx3⟩⟩
theorem all_any(x y:Int)(w:World) :
  Calls Tryz.prog 220 #[.agg #[.int .u64 x,.int .u64 y]] w fun e w'=>e=.returned (.func (.func 267) #[] #[.pointer (some ⟨w.heap.size,0,none⟩)])/\w'=w.alloc (.cells #[.int .u64 x,.int .u64 y] 246):=by
 go_enter Tryz.func220,Tryz.ntmps220
 go_wp2;go_ret
 exact⟨rfl,rfl⟩
theorem all_stops(n:Nat)(hn:2<=n)(Bs n₀:Nat)(s:Nat×Nat)(hs:bok s)(w:World)(hBs:w.heap[Bs]?=some (.cells #[.int .u64 (s.1:Int),.int .u64 (s.2:Int)] 246 (0,0)))(hD:DB w)(h00:1<n₀) :
  SeqStopsK Fence.wide n Tryz.prog 267 #[.pointer (some ⟨Bs,0,none⟩)] (fun x:Nat=>#[Value.int .i64 (x:Int)]) (Below n₀) (fun ys=>ys=lst (In s) 128) (fun _=>True) 128 w:=fun l J Jx W hW _ _ hY h0=>
 all1_in n hn l Bs n₀ s hs J Jx hY W (ah hBs hW) (hD.mono hW) h00 h0
end Go.Proofs.YtbjmgmmekmfjhaaGreatDoor
namespace Go.Proofs.YtbjmgmmekmfjhaaGreatDoor
open Go.RowKit
theorem infoB:(Tryz.prog.info? 4).map (fun i=>(i.zero,i.size,i.bytes))=some (some (.bool false),1,1):=by kernel_rfl
def MkP (w:World)(g n:Nat)(P:Nat->Prop):Prop:=∃c:Array Value,w.heap[g]?=some (.cells c 4 (0,0))/\c.size=n/\∀j,j<n->c[j]?=some (.bool (pB (P j)))
theorem MkP.mono{w w':World}{g n:Nat}{P:Nat->Prop}(h:MkP w g n P)(hb:Below w.heap.size w w'):MkP w' g n P:=by
 obtain⟨c,h1,h2,h3⟩:=h;exact⟨c,ah h1 hb,h2,h3⟩
theorem MkP.cell{w:World}{g n j:Nat}{P:Nat->Prop}(h:MkP w g n P)(hj:j<n):w.cell? ⟨g,j,none⟩=some (.bool (pB (P j))):=by
 obtain⟨c,h1,h2,h3⟩:=h;rw[ae h1];exact h3 j hj
theorem MkP.free{w:World}{g n:Nat}{P:Nat->Prop}(h:MkP w g n P)(j:Nat):w.frozen? ⟨g,j,none⟩=false:=by
 obtain⟨c,h1,-⟩:=h;exact aq h1 j
theorem MkP.as{w:World}{g n:Nat}{P Q:Nat->Prop}(h:MkP w g n P)(hq:∀j,j<n->(P j↔Q j)):MkP w g n Q:=by
 obtain⟨c,h1,h2,h3⟩:=h;exact⟨c,h1,h2,fun j hj=>by rw[h3 j hj];simp only[show P j=Q j from propext (hq j hj)]⟩
theorem MkP.set{w:World}{g n i:Nat}{P:Nat->Prop}(h:MkP w g n P)(hi:i<n):MkP (w.setCell ⟨g,i,none⟩ (.bool true)) g n (fun j=>P j\/j=i):=by
 obtain⟨c,h1,h2,h3⟩:=h;refine⟨_,ak h1 _,by simpa using h2,fun j hj=>?_⟩;by_cases e:j=i
 ·subst e;rw[aC _ (by omega),aL (.inr rfl)]
 ·rw[aj _ e,h3 j hj];simp only[show (P j\/j=i)=P j from propext ⟨fun h=>h.elim id (fun h=>absurd h e),.inl⟩]
theorem fk{w:World}{B:Nat}{v:Value}{n:Nat}{d:List Int}(h:w.ownsRow B 3 1 v n (d.map (Value.int .i64)))(hn:n=d.length):DSl w B v d:=by
 by_cases h0:0<n
 ·obtain⟨g,cap,hv,hg,hH⟩:=Ht.own h rfl hn h0;exact .inr ⟨g,cap,by rw[hv,hn],hg,hH⟩
 ·have hd:d=[]:=List.eq_nil_of_length_eq_zero (by omega);rcases h.2 with ⟨hv,-⟩ | ⟨g,cap,cur,hv,-⟩
  ·exact .inl ⟨hd,_,_,by rw[hv]⟩
  ·exact .inl ⟨hd,_,_,by rw[hv,show n=0 by omega]⟩
theorem sMark_any(g n:Nat)(P:Nat->Prop)(w:World)(hn:n<=120)(hM:MkP w g n P) :
  Calls Tryz.prog 116 #[.slice (some ⟨g,0,none⟩) n n] w fun e w'=>∃v,e=.returned v/\DSl w' w.heap.size v (lstI P n)/\Below w.heap.size w w':=by
 obtain⟨i0,hi,hz0,hz1,hz2⟩:=info_parts info3;have hE0:(w.alloc (.cells #[] 3)).ownsRow w.heap.size 3 1 (.slice (some ⟨w.heap.size,0,none⟩) 0 0) 0 []:=by
  have:=World.ownsRow_made (base:=w.heap.size) (e:=3) (size:=1) w #[] 0 n_l (by unfold maxLen;omega) rfl;simpa using this
 go_enter Tryz.func116,Tryz.ntmps116
 go_wp2;go_loopw [3,4] (fun o i wr=>∃(k:Nat),k<=n/\i=.int .i64 k/\wr.ownsRow w.heap.size 3 1 o (lstI P k).length ((lstI P k).map (Value.int .i64))/\Below w.heap.size w wr) (fun _ i _=>n-(intOf i).toNat)
 case atStart=>exact⟨0,by omega,rfl,hE0,b_r.alloc n_l _⟩
 case round=>
  obtain⟨k,hk,rfl,hown,hb⟩:=hrel;clear hE0;by_cases hlt:k<n
  ·have hcl:=(hM.mono hb).cell hlt;have hln:=eT P k;by_cases hp:P k
   ·rw[aL hp] at hcl;have HY:Hid (lstI P (k+1)=lstI P k++[(k:Int)]):=lstI_yes hp;have hszr:=hb.size;go_wp2_with (first | (at_builtin;refine wpList_append_lies _ rfl _ _ 50 rfl w.heap.size 3 i0 (.int .i64 0) 1 8 Tryz.underlying50 hi hz0 hz1 hz2 rfl (by decide) _ _ _ rfl (World.ownsRow.alloc hown _) ⟨wr.heap.size,0,none⟩ 1 1 [.int .i64 (k:Int)] rfl rfl (cell_one_new _ _ _) (by intro u hu;simp at hu;subst hu;rfl) (by decide) (by unfold maxLen;omega) (by omega) (by simp;omega) _ rfl ?_;intro g1 cap w1 hown1 hgrow1 hat1 hlt1))
    have hk1:=aT.grown (ts:=[3]) (World.ownsRow.alloc hown _) hgrow1 (by simp);have hb1:Below w.heap.size w w1:=(hb.alloc hb.size _).trans (hk1.toBelow (by simp;omega));go_roundw
    case rel=>exact⟨k+1,by omega,by go_num,by rw[HY.out];simpa using hown1,hb1⟩
    case measure=>simp[intOf];omega
   ·rw[aJ hp] at hcl;have HY:Hid (lstI P (k+1)=lstI P k):=lstI_no hp;go_wp2;go_roundw
    case rel=>exact⟨k+1,by omega,by go_num,by rw[HY.out];exact hown,hb⟩
    case measure=>simp[intOf];omega
  ·have hkn:k=n:=by omega
   subst hkn;have hds:=fk hown rfl;obtain⟨a,cap,rfl,-⟩:=hds.form;go_wp2;go_ret
   exact⟨_,rfl,hds,hb⟩
theorem madeB{w1:World}{base g n:Nat}(h:w1.ownsRow base 4 1 (.slice (some ⟨g,0,none⟩) n n) n (madeCells (Value.bool false).cells (n*1)).toList):MkP w1 g n (fun _=>False):=by
 rcases h.2 with ⟨hv,-⟩ | ⟨g',cap,cur,hv,-,hh,-,-,hs,ht⟩
 ·cases hv
 ·cases hv;refine⟨cur,hh,by omega,fun j hj=>?_⟩;have h1:(cur.toList.take (n*1))[j]?=((madeCells (Value.bool false).cells (n*1)).toList)[j]?:=by rw[ht]
  rw[List.getElem?_take_of_lt (by omega)] at h1;rw[aJ (by simp)];have h2:((madeCells (Value.bool false).cells (n*1)).toList)[j]?=some (.bool false):=by
   simp[madeCells,Value.cells,hj,Nat.mod_one]
  rw[h2] at h1;simpa using h1
theorem sHeads_any(a1 a2:Option Addr)(nt c1 c2:Nat)(fs:List Fn)(f:Nat)(w:World)(hf:f<fs.length)(hn:fs.length<=1048576)(hm:FnsAt w 0 a2 fs)(F:Fine fs fs[f].code)(HG:∀d,Done fs fs[f].code d->GJ fs[f].code d) :
  Calls Tryz.prog 199 #[.agg #[.slice a1 nt c1,.slice a2 fs.length c2],.int .i64 f] w fun e w'=>∃v d,e=.returned v/\Done fs fs[f].code d/\DSl w' w.heap.size v (lstI (HP fs[f].code d fs[f].code.length) fs[f].code.length)/\Below w.heap.size w w':=by
 obtain⟨i0,hi,hz0,hz1,hz2⟩:=info_parts infoB;have hone:=F.one;have hmost:=F.most;have HM:Hid (FnsAt w 0 a2 fs):=hm;obtain⟨b,off,ca,cc,rfl,-,d1,d2,d3,d4⟩:=hm f hf;have hbA:Below w.heap.size w (w.alloc (.cells #[.slice a1 nt c1,.slice (some ⟨b,off,none⟩) fs.length c2] 36)):=b_r.alloc n_l _;have d3':=cell_later hbA d3;clear d1 d2 d3;go_enter Tryz.func199,Tryz.ntmps199
 go_wp2_with fail
 refine (dj a1 _ nt c1 c2 fs f _ hf hn (HM.out.mono hbA) F).mono ?_;rintro e w1 ⟨g,cap,d,rfl,hg,hD,hH,hb⟩;have G:=HG d hD;have H:=hD.hts F;have HDD:Hid (Done fs fs[f].code d):=hD;have hb1:Below w.heap.size w w1:=hbA.trans (hb.mono hbA.size);have d4':=d4.mono hb1;obtain⟨code,hcode⟩:∃code,code=fs[f].code:=⟨_,rfl⟩;rw[<-hcode] at F d4' hone hmost G H;have HCO:Hid (code=fs[f].code):=hcode;rw[<-hcode];clear hcode hbA d3' hD hb d4 HG HM;go_wp2_with (first | (at_make;refine wpList_make_full _ rfl _ _ 190 rfl w1.heap.size 4 i0 (.bool false) 1 Tryz.underlying190 hi hz0 hz1 _ _ _ _ code.length rfl rfl rfl rfl (by rw[hz2];omega) (by unfold maxLen;omega) n_l ?_;intro w2 hown hgrow;have hM0:=madeB hown;have m0:=hM0.cell (j:=0) (by omega);have m1:=hM0.free 0))
 have hbm:Below w1.heap.size w1 w2:=b_r.grown hgrow n_l (by intro k hk;cases hk);have hH2:=hH.mono hbm;have d42:=d4'.mono hbm;have hb2:Below w.heap.size w w2:=hb1.trans (hbm.mono hb1.size);have hlo:w.heap.size<=w1.heap.size:=hb1.size;have HLD:Hid (d.length=code.length):=H.len;have hM1:=hM0;have hH3:=hH2;have hA3:∀X:World,Below w1.heap.size w1 X->bn X 0 ca code:=fun X h=>d4'.mono h
 have hb3:Below w1.heap.size w1 w2:=hbm;have hM2:MkP w2 w1.heap.size code.length (HP code d 0):=hM1.as (fun j _=>by show _↔False;simp)
 clear hM1 hM0 m0 m1 hown hgrow hbm hH2 d42;have HB1:Hid (Below w.heap.size w w1):=hb1;have HA3:Hid (∀X:World,Below w1.heap.size w1 X->bn X 0 ca code):=hA3;have HH1:Hid (Ht w1 g cap d):=hH;clear hb1 hb2 hA3 d4' hH3 hH hi hz0 hz1 hz2;go_loopw [8] (fun i wr=>∃(k:Nat),k<=code.length/\i=.int .i64 k/\MkP wr w1.heap.size code.length (HP code d k)/\Below w1.heap.size w1 wr) (fun i _=>code.length-(intOf i).toNat)
 case atStart=>exact⟨0,by omega,rfl,hM2,hb3⟩
 case round=>
  obtain⟨k,hk,rfl,hM,hb⟩:=hrel;clear hM2 hb3;by_cases hlt:k<code.length
  case neg=>
   obtain rfl:k=code.length:=by omega
   go_wp2_with fail
   refine (sMark_any _ _ _ _ hmost hM).mono ?_;rintro e w5 ⟨v,rfl,hds,k5⟩;have hB5:Below w.heap.size w w5:=(HB1.out.trans (hb.mono hlo)).trans (k5.mono (Nat.le_trans hlo hb.size));have hds':DSl w5 w.heap.size v (lstI (HP code d code.length) code.length):=hds.low (Nat.le_trans hlo hb.size);obtain⟨av,cv,rfl,-⟩:=hds.form;clear hds k5 hM;go_wp2;go_ret
   exact⟨_,d,rfl,HDD.out,by rw[<-HCO.out];exact hds',hB5⟩
  have hkd:k<d.length:=by rw[HLD.out];exact hlt
  obtain⟨b4,off4,rfl,-,e1,e2⟩:=HA3.out wr hb k hlt;have e3:=(HH1.out.mono hb).cell hkd;have ec:=fQ (code:=code) hlt;have ed:d.getD k (-1)=d[k]:=by rw[List.getD_eq_getElem?_getD,List.getElem?_eq_getElem hkd];rfl
  have hlow:=H.low k hkd;have HED:Hid (isJ code d k↔0<=d[k]/\(code[k].1=17\/code[k].1=18\/code[k].1=19)):=by
   show _↔_
   unfold isJ;rw[ed,ec];constructor
   ·rintro⟨h1,h2⟩;exact⟨by omega,h2⟩
   ·rintro⟨h1,h2⟩;exact⟨by omega,h2⟩
  have HEC:Hid (code.getD k (0,0)=code[k]):=ec;obtain⟨op,hop⟩:∃op,op=code[k].1:=⟨_,rfl⟩;obtain⟨av,hav⟩:∃av,av=code[k].2:=⟨_,rfl⟩;obtain⟨dk,hdk⟩:∃dk,dk=d[k]:=⟨_,rfl⟩;rw[<-hop] at e1;rw[<-hav] at e2;rw[<-hdk] at e3;rw[<-hop,<-hdk] at HED;have HOP:Hid (code[k].1=op/\code[k].2=av):=⟨hop.symm,hav.symm⟩;clear ec ed hop hav hdk hlow;have NO:¬isJ code d k->∀j,j<code.length->(HP code d k j↔HP code d (k+1) j):=fun h j _=>⟨.inl,fun q=>q.elim id (fun q=>absurd q.1 h)⟩
  have HNO:Hid (¬isJ code d k->∀j,j<code.length->(HP code d k j↔HP code d (k+1) j)):=NO;clear NO;by_cases hz:dk<0
  ·have HJN:Hid (¬isJ code d k):=fun h=>by have:=(HED.out.1 h).1;omega
   have hM':=hM.as (HNO.out HJN.out);go_wp2;go_roundw
   case rel=>exact⟨k+1,by omega,by go_num,hM',hb⟩
   case measure=>simp[intOf];omega
  by_cases hj:op=17\/op=18\/op=19
  case neg=>
   have HJN:Hid (¬isJ code d k):=fun h=>hj (HED.out.1 h).2
   have q1:(op != 17)=true:=by simpa using fun e=>hj (.inl e)
   have q2:(op != 18)=true:=by simpa using fun e=>hj (.inr (.inl e))
   have q3:(op != 19)=true:=by simpa using fun e=>hj (.inr (.inr e))
   have p1:(op == 17)=false:=by simpa using fun e=>hj (.inl e)
   have p2:(op == 18)=false:=by simpa using fun e=>hj (.inr (.inl e))
   have p3:(op == 19)=false:=by simpa using fun e=>hj (.inr (.inr e))
   have hM':=hM.as (HNO.out HJN.out);go_wp2;go_roundw
   case rel=>exact⟨k+1,by omega,by go_num,hM',hb⟩
   case measure=>simp[intOf];omega
  have HJY:Hid (isJ code d k):=HED.out.2 ⟨by omega,hj⟩;obtain⟨g1,g2,g3⟩:=G.jump k hlt HJY.out;rw[HEC.out,HOP.out.2] at g1 g2;rw[HEC.out,HOP.out.1] at g3;obtain⟨ai,rfl⟩:∃ai:Nat,av=(ai:Int):=⟨av.toNat,by omega⟩;have hai:ai<code.length:=by omega
  have s1:=hM.cell hai;have s2:=hM.free ai;have hM3:=hM.set hai;have hb3:=hb.setCell (p:=⟨w1.heap.size,ai,none⟩) n_l (.bool true);have e9:∀(j:Nat),(j:Int)=(code.getD k (0,0)).2↔j=ai:=fun j=>by rw[HEC.out,HOP.out.2];omega
  by_cases hle:ai<=k
  case neg=>
   have hM4:MkP wr w1.heap.size code.length (HP code d (k+1)):=hM.as (fun j _=>⟨.inl,fun q=>q.elim id (fun ⟨_,q,_⟩=>by rw[HEC.out,HOP.out.2] at q;omega)⟩);have HM4:Hid (MkP wr w1.heap.size code.length (HP code d (k+1))):=hM4;clear hM3 hM4 e9 g3 hM;rcases hj with rfl | rfl | rfl
   all_goals
    go_wp2;go_roundw
    case rel=>exact⟨k+1,by omega,by go_num,HM4.out,hb⟩
    case measure=>simp[intOf];omega
  have hM4:MkP (wr.setCell ⟨w1.heap.size,ai,none⟩ (.bool true)) w1.heap.size code.length (HP code d (k+1)):=hM3.as (fun j _=>by
   show _↔HP code d k j\/(isJ code d k/\(code.getD k (0,0)).2<=k/\(j:Int)=(code.getD k (0,0)).2)
   constructor
   ·rintro (h | h)
    ·exact .inl h
    ·exact .inr ⟨HJY.out,by rw[HEC.out,HOP.out.2];omega,(e9 j).2 h⟩
   ·rintro (h | ⟨-,-,h⟩)
    ·exact .inl h
    ·exact .inr ((e9 j).1 h))
  have HM4:Hid (MkP (wr.setCell ⟨w1.heap.size,ai,none⟩ (.bool true)) w1.heap.size code.length (HP code d (k+1))):=hM4;clear hM3 hM4 e9 g3 hM;rcases hj with rfl | rfl | rfl
  all_goals
   go_wp2;go_roundw
   case rel=>exact⟨k+1,by omega,by go_num,HM4.out,hb3⟩
   case measure=>simp[intOf];omega
end Go.Proofs.YtbjmgmmekmfjhaaGreatDoor
