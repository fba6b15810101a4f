/- TV26 -/
import Derived.Test.YtdlkbbgmjilccaaGreatDoorTV19
import Derived.Test.YtdlkbbgmjilccaaGreatDoorTV21
set_option maxHeartbeats 32000000
set_option maxRecDepth 100000
namespace Go.Proofs.YtdlkbbgmjilccaaGreatDoor
open Go.RowKit
theorem dU(op:Int)(w:World):Calls Tryz.prog 151 #[.int .i64 op] w fun e w'=>e=.returned (.bool (decide (op=23) || decide (op=24)))/\w'=w:=by
 by_cases h1:op=23
 ·subst h1;go_enter Tryz.func151,Tryz.ntmps151
  go_wp2;go_ret
  exact⟨rfl,rfl⟩
 ·by_cases h2:op=24
  ·subst h2;go_enter Tryz.func151,Tryz.ntmps151
   go_wp2;go_ret
   exact⟨rfl,rfl⟩
  ·have b1:(op == 23)=false:=by simpa using h1
   have b2:(op == 24)=false:=by simpa using h2
   go_enter Tryz.func151,Tryz.ntmps151
   go_wp2;go_ret
   exact⟨aj (by simp[h1,h2]),rfl⟩
theorem fk(a1 a2:Option Addr)(nt c1 c2:Nat)(fs:List Fn)(base G:Nat)(f pc nl ns:Int)(last:Bool)(w:World)(hm:FnsAt w 0 a2 fs)(hH:Hs w base G fs.length fs)(FF:∀k (hk:k<fs.length),Fine fs fs[k].code) :
  Calls Tryz.prog 106 #[.agg #[.slice a1 nt c1,.slice a2 fs.length c2],.slice (some ⟨G,0,none⟩) fs.length fs.length,.int .i64 f,.int .i64 pc,.int .i64 nl,.int .i64 ns,.bool last] w fun e w'=>Says (Fits fs f pc nl ns last) e/\Below w.heap.size w w':=by
 have hbA:Below w.heap.size w (w.alloc (.cells #[.slice a1 nt c1,.slice a2 fs.length c2] 42)):=gM.alloc nL _;by_cases hf0:f<0
 ·go_enter Tryz.func106,Tryz.ntmps106
  go_wp2;go_ret
  exact⟨Says.no rfl (fz (.inl hf0)),hbA⟩
 by_cases hf1:(fs.length:Int)<=f
 ·go_enter Tryz.func106,Tryz.ntmps106
  go_wp2;go_ret
  exact⟨Says.no rfl (fz (.inr hf1)),hbA⟩
 obtain⟨i,rfl⟩:∃i:Nat,f=i:=⟨f.toNat,by omega⟩;have hi:i<fs.length:=by omega
 clear hf0 hf1;obtain⟨b,off,ca,cc,rfl,-,d1,d2,d3,d4⟩:=hm i hi;have d2':=cell_later hbA d2;have d3':=cell_later hbA d3;clear d1 d2 d3;by_cases hl:nl=fs[i].locals
 case neg=>
  have hl':(nl != fs[i].locals)=true:=by simpa using hl
  have HL:Hid (nl≠fs[i].locals):=hl;clear hl;go_enter Tryz.func106,Tryz.ntmps106
  go_wp2;go_ret
  exact⟨Says.no rfl (fits_locals hi HL.out),hbA⟩
 have HL:Hid (nl=fs[i].locals):=hl;have hl':(nl != fs[i].locals)=false:=by simpa using hl
 clear hl;obtain⟨g,d,hg,hD,hHt⟩:=hH.at hi hi;have F:=FF i hi;have P:=hD.hts F;have hmost:=F.most;have hdl:Hid (d.length=fs[i].code.length):=P.len;have hg':=cell_later hbA hg;clear hg;go_enter Tryz.func106,Tryz.ntmps106
 go_wp2;go_quiet (fail)
 clear d2' d3' hl';by_cases hp0:pc<0
 ·go_wp2;go_ret
  exact⟨Says.no rfl (fG hi (.inl hp0)),aC hbA _⟩
 by_cases hp1:(fs[i].code.length:Int)<=pc
 ·go_wp2;go_ret
  exact⟨Says.no rfl (fG hi (.inr hp1)),aC hbA _⟩
 obtain⟨p,rfl⟩:∃p:Nat,pc=p:=⟨pc.toNat,by omega⟩;have hpd:p<d.length:=by rw[hdl.out];omega
 have hpl:p<fs[i].code.length:=by omega
 clear hp0 hp1;have hHA:=hHt.mono hbA;have hc0:=hHA.cell hpd;have hlow:=P.low p hpd;have hhigh:=P.high p hpd;by_cases hm1:d[p]=-1
 ·have HM:Hid (d[p]=-1):=hm1;have hm1':(d[p] == -1)=true:=by simpa using hm1
  go_wp2;go_ret
  exact⟨Says.no rfl (fits_none hi hD hpd (by rw[HM.out];decide)),aC hbA _⟩
 have HM:Hid (0<=d[p]):=by show 0<=d[p];omega
 have hm1':(d[p] == -1)=false:=by simpa using hm1
 clear hm1
 cases last with
 | true=>
  go_wp2;go_ret
  refine⟨⟨_,rfl,?_⟩,aC hbA _⟩;rw[fits_last hi hD hpd hdl.out HL.out HM.out];simp
 | false=>
  cases p with
  | zero=>
   go_wp2
   all_goals go_ret
   all_goals exact⟨Says.no rfl fits_first,aC hbA _⟩
  | succ p=>
   have hpd0:p<d.length:=by omega
   have hpl0:p<fs[i].code.length:=by omega
   obtain⟨cb,coff,rfl,-,e1,-⟩:=d4 p hpl0;have e1':=cell_later hbA e1;have hc1:=hHA.cell hpd0;have hlow0:=P.low p hpd0;clear e1;by_cases ho:fs[i].code[p].1=23\/fs[i].code[p].1=24
   case neg=>
    have ho':(decide (fs[i].code[p].1=23) || decide (fs[i].code[p].1=24))=false:=by simpa using ho
    have HO:Hid (¬(fs[i].code[p].1=23\/fs[i].code[p].1=24)):=ho;clear ho;go_wp2_with (go_at_call 151;refine (dU _ _).mono ?_;rintro e w' ⟨rfl,hw⟩;rw[hw];clear hw w')
    go_ret
    refine⟨Says.no rfl ?_,aC hbA _⟩;rw[bT hi hD hpd hdl.out HL.out HM.out];exact fun h=>HO.out h.2.1
   have ho':(decide (fs[i].code[p].1=23) || decide (fs[i].code[p].1=24))=true:=by simpa using ho
   have HO:Hid (fs[i].code[p].1=23\/fs[i].code[p].1=24):=ho;clear ho;by_cases hm0:d[p]=-1
   ·have HM0:Hid (d[p]=-1):=hm0;have hm0':(d[p] != -1)=false:=by simpa using hm0
    clear hm0;go_wp2_with (go_at_call 151;refine (dU _ _).mono ?_;rintro e w' ⟨rfl,hw⟩;rw[hw];clear hw w')
    go_ret
    refine⟨Says.no rfl ?_,aC hbA _⟩;rw[bT hi hD hpd hdl.out HL.out HM.out];exact fun h=>absurd h.1 (by rw[HM0.out];decide)
   ·have HM0:Hid (0<=d[p]):=by show 0<=d[p];omega
    have hm0':(d[p] != -1)=true:=by simpa using hm0
    clear hm0;go_wp2_with (go_at_call 151;refine (dU _ _).mono ?_;rintro e w' ⟨rfl,hw⟩;rw[hw];clear hw w')
    go_ret
    refine⟨⟨_,rfl,?_⟩,aC hbA _⟩;rw[bT hi hD hpd hdl.out HL.out HM.out];constructor
    ·intro h;exact⟨HM0.out,HO.out,by simpa using h⟩
    ·rintro⟨-,-,h⟩;simpa using h
end Go.Proofs.YtdlkbbgmjilccaaGreatDoor
