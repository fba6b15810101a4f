/- TV27 -/
import Derived.Test.YtdlkbbgmjilccaaGreatDoorTV26
set_option maxHeartbeats 32000000
set_option maxRecDepth 100000
namespace Go.Proofs.YtdlkbbgmjilccaaGreatDoor
open Go.RowKit
theorem frames_run{fs:List Fn}{d:VmD}(h:bA fs d)(hs:d.status≠1):((d.status=0/\d.trap=0)\/(d.status=2/\1<=d.trap/\d.trap<=8))/\1<=d.frames.length/\d.frames.length<=24/\(d.value.k=0/\d.value.n=0/\d.value.s=⟨#[]⟩) /\
  ∀i (h:i<d.frames.length),Fits fs d.frames[i].fn d.frames[i].pc d.frames[i].locals.length d.frames[i].stack.length (decide ((i:Int)=(d.frames.length:Int)-1)):=by
 rcases h with h | h
 ·exact absurd h.1 hs
 ·exact h
def Run (d:VmD):Prop:=(d.status=0/\d.trap=0)\/(d.status=2/\1<=d.trap/\d.trap<=8)
theorem frames_done(a1 a2:Option Addr)(nt c1 c2:Nat)(fs:List Fn)(G:Nat)(fa ha oa:Option Addr)(fc hcp oc:Nat)(d:VmD)(w:World)(hx:bU d)(hs:d.status=1) :
  Calls Tryz.prog 57 #[.agg #[.slice a1 nt c1,.slice a2 fs.length c2],.slice (some ⟨G,0,none⟩) fs.length fs.length,.agg (aQ fa ha oa fc hcp oc d)] w fun e w'=>Says (bA fs d) e/\Below w.heap.size w w':=by
 have hbA:Below w.heap.size w ((w.alloc (.cells #[.slice a1 nt c1,.slice a2 fs.length c2] 42)).alloc (.cells #[.slice fa d.frames.length fc,.slice ha d.heap.length hcp,.int .i64 d.made,.slice oa d.out.length oc,.int .i64 d.status,.int .i64 d.trap,.int .i64 d.value.k,.int .i64 d.value.n,.string d.value.s,.int .i64 d.steps] 48)):=(gM.alloc nL _).alloc (by simp) _;have hfl:=hx.frames;unfold aQ;have HS:Hid (d.status=1):=hs;rw[hs] at hbA ⊢;clear hs;by_cases h1:d.frames.length=0
 ·have h1I:((d.frames.length:Int) == 0)=true:=by simpa using h1
  have H1:Hid (d.frames.length=0):=h1;clear h1;go_enter Tryz.func57,Tryz.ntmps57
  go_wp2;go_ret
  refine⟨⟨_,rfl,?_⟩,hbA⟩;constructor
  ·intro h;exact .inl ⟨HS.out,H1.out,by simpa using h⟩
  ·rintro (⟨-,-,h⟩ | ⟨⟨h,-⟩ | ⟨h,-⟩,-⟩)
   ·simpa using h
   ·rw[HS.out] at h;cases h
   ·rw[HS.out] at h;cases h
 ·have h1I:((d.frames.length:Int) == 0)=false:=by simpa using h1
  have H1:Hid (¬d.frames.length=0):=h1;clear h1;go_enter Tryz.func57,Tryz.ntmps57
  go_wp2;go_ret
  refine⟨Says.no rfl ?_,hbA⟩;rintro (⟨-,h,-⟩ | ⟨⟨h,-⟩ | ⟨h,-⟩,-⟩)
  ·exact H1.out h
  ·rw[HS.out] at h;cases h
  ·rw[HS.out] at h;cases h
theorem frames_bad(a1 a2:Option Addr)(nt c1 c2:Nat)(fs:List Fn)(G:Nat)(fa ha oa:Option Addr)(fc hcp oc:Nat)(d:VmD)(w:World)(hx:bU d)(hs:d.status≠1)(hr:¬Run d) :
  Calls Tryz.prog 57 #[.agg #[.slice a1 nt c1,.slice a2 fs.length c2],.slice (some ⟨G,0,none⟩) fs.length fs.length,.agg (aQ fa ha oa fc hcp oc d)] w fun e w'=>Says (bA fs d) e/\Below w.heap.size w w':=by
 have hbA:Below w.heap.size w ((w.alloc (.cells #[.slice a1 nt c1,.slice a2 fs.length c2] 42)).alloc (.cells #[.slice fa d.frames.length fc,.slice ha d.heap.length hcp,.int .i64 d.made,.slice oa d.out.length oc,.int .i64 d.status,.int .i64 d.trap,.int .i64 d.value.k,.int .i64 d.value.n,.string d.value.s,.int .i64 d.steps] 48)):=(gM.alloc nL _).alloc (by simp) _;have hfl:=hx.frames;unfold aQ;have HW:Hid (¬bA fs d):=fun h=>hr (frames_run h hs).1
 by_cases h0:d.status=0
 ·have ht:(d.trap != 0)=true:=by simpa using fun h=>hr (.inl ⟨h0,h⟩)
  rw[h0] at hbA ⊢;clear hs hr h0;go_enter Tryz.func57,Tryz.ntmps57
  go_wp2
  all_goals go_ret
  all_goals exact⟨Says.no rfl (HW.out),hbA⟩
 ·by_cases h2:d.status=2
  ·have ht:d.trap<1\/8<d.trap:=by
    by_cases ha:1<=d.trap
    ·by_cases hb:d.trap<=8
     ·exact absurd (.inr ⟨h2,ha,hb⟩) hr
     ·omega
    ·omega
   rw[h2] at hbA ⊢;clear hs hr h0 h2;rcases ht with ht | ht
   ·go_enter Tryz.func57,Tryz.ntmps57
    go_wp2
    all_goals go_ret
    all_goals exact⟨Says.no rfl HW.out,hbA⟩
   ·by_cases hu:d.trap<1
    ·omega
    ·go_enter Tryz.func57,Tryz.ntmps57
     go_wp2
     all_goals go_ret
     all_goals exact⟨Says.no rfl HW.out,hbA⟩
  ·have b0:(d.status == 0)=false:=by simpa using h0
   have b1:(d.status == 1)=false:=by simpa using hs
   have b2:(d.status == 2)=false:=by simpa using h2
   clear hs hr h0 h2;go_enter Tryz.func57,Tryz.ntmps57
   go_wp2
   all_goals go_ret
   all_goals exact⟨Says.no rfl (HW.out),hbA⟩
theorem frames_some(a1 a2:Option Addr)(nt c1 c2:Nat)(fs:List Fn)(base G:Nat)(fa ha oa:Option Addr)(fc hcp oc:Nat)(d:VmD)(w:World)(hx:bU d)(hm:VmAt w 0 fa ha oa d)(hmf:FnsAt w 0 a2 fs)(hH:Hs w base G fs.length fs)(FF:∀k (hk:k<fs.length),Fine fs fs[k].code)(st tr:Int)(hst:d.status=st)(htr:d.trap=tr)(hr:(st=0/\tr=0)\/(st=2/\1<=tr/\tr<=8)) :
  Calls Tryz.prog 57 #[.agg #[.slice a1 nt c1,.slice a2 fs.length c2],.slice (some ⟨G,0,none⟩) fs.length fs.length,.agg (aQ fa ha oa fc hcp oc d)] w fun e w'=>Says (bA fs d) e/\Below w.heap.size w w':=by
 have hne:d.status≠1:=by rcases hr with h | h<;>omega
 have HR:Hid (Run d):=by show Run d;unfold Run;rw[hst,htr];exact hr
 have HF:Hid (bA fs d->1<=d.frames.length/\d.frames.length<=24/\(d.value.k=0/\d.value.n=0/\d.value.s=⟨#[]⟩)/\∀i (h:i<d.frames.length),Fits fs d.frames[i].fn d.frames[i].pc d.frames[i].locals.length d.frames[i].stack.length (decide ((i:Int)=(d.frames.length:Int)-1))):=fun h=>(frames_run h hne).2
 have hbA:Below w.heap.size w ((w.alloc (.cells #[.slice a1 nt c1,.slice a2 fs.length c2] 42)).alloc (.cells #[.slice fa d.frames.length fc,.slice ha d.heap.length hcp,.int .i64 d.made,.slice oa d.out.length oc,.int .i64 d.status,.int .i64 d.trap,.int .i64 d.value.k,.int .i64 d.value.n,.string d.value.s,.int .i64 d.steps] 48)):=(gM.alloc nL _).alloc (by simp) _;have hfl:=hx.frames;unfold aQ;have hM0:=al (ah w #[.slice a1 nt c1,.slice a2 fs.length c2] 42) (.cells #[.slice fa d.frames.length fc,.slice ha d.heap.length hcp,.int .i64 d.made,.slice oa d.out.length oc,.int .i64 d.status,.int .i64 d.trap,.int .i64 d.value.k,.int .i64 d.value.n,.string d.value.s,.int .i64 d.steps] 48);have hV0:=ax (w.alloc (.cells #[.slice a1 nt c1,.slice a2 fs.length c2] 42)) #[.slice fa d.frames.length fc,.slice ha d.heap.length hcp,.int .i64 d.made,.slice oa d.out.length oc,.int .i64 d.status,.int .i64 d.trap,.int .i64 d.value.k,.int .i64 d.value.n,.string d.value.s,.int .i64 d.steps] 48 (w.heap.size+1) (by simp);rw[hst,htr] at hbA hM0 hV0 ⊢;clear hst htr hne;by_cases h1:d.frames.length<1
 ·have h1I:(d.frames.length:Int)<1:=by omega
  have HN:Hid (¬bA fs d):=fun h=>by have:=(HF.out h).1;omega
  rcases hr with ⟨rfl,rfl⟩ | ⟨rfl,ht1,ht2⟩
  ·go_enter Tryz.func57,Tryz.ntmps57
   go_wp2
   all_goals go_ret
   all_goals exact⟨Says.no rfl (HN.out),hbA⟩
  ·go_enter Tryz.func57,Tryz.ntmps57
   go_wp2
   all_goals go_ret
   all_goals exact⟨Says.no rfl (HN.out),hbA⟩
 by_cases h2:24<d.frames.length
 ·have h2I:24<(d.frames.length:Int):=by omega
  have h1I:¬(d.frames.length:Int)<1:=by omega
  have HN:Hid (¬bA fs d):=fun h=>by have:=(HF.out h).2.1;omega
  rcases hr with ⟨rfl,rfl⟩ | ⟨rfl,ht1,ht2⟩
  ·go_enter Tryz.func57,Tryz.ntmps57
   go_wp2
   all_goals go_ret
   all_goals exact⟨Says.no rfl (HN.out),hbA⟩
  ·go_enter Tryz.func57,Tryz.ntmps57
   go_wp2
   all_goals go_ret
   all_goals exact⟨Says.no rfl (HN.out),hbA⟩
 have h1I:¬(d.frames.length:Int)<1:=by omega
 have h2I:¬24<(d.frames.length:Int):=by omega
 by_cases hz:d.value.k=0/\d.value.n=0/\d.value.s=⟨#[]⟩
 case neg=>
  have HN:Hid (¬bA fs d):=fun h=>hz (HF.out h).2.2.1
  by_cases z0:d.value.k=0
  ·by_cases z1:d.value.n=0
   ·have z2:d.value.s≠⟨#[]⟩:=fun h=>hz ⟨z0,z1,h⟩
    have e1:=(a7 z2).1;have e2:=(a7 z2).2;rw[z0,z1] at hbA ⊢;clear hz z2 z0 z1;rcases hr with ⟨rfl,rfl⟩ | ⟨rfl,ht1,ht2⟩
    ·go_enter Tryz.func57,Tryz.ntmps57
     go_wp2
     all_goals go_ret
     all_goals exact⟨Says.no rfl (HN.out),hbA⟩
    ·go_enter Tryz.func57,Tryz.ntmps57
     go_wp2
     all_goals go_ret
     all_goals exact⟨Says.no rfl (HN.out),hbA⟩
   ·have e1:(d.value.n == 0)=false:=by simpa using z1
    have e2:(0 == d.value.n)=false:=by simpa using fun h=>z1 (h:(0:Int)=d.value.n).symm
    rw[z0] at hbA ⊢;clear hz z0 z1;rcases hr with ⟨rfl,rfl⟩ | ⟨rfl,ht1,ht2⟩
    ·go_enter Tryz.func57,Tryz.ntmps57
     go_wp2
     all_goals go_ret
     all_goals exact⟨Says.no rfl (HN.out),hbA⟩
    ·go_enter Tryz.func57,Tryz.ntmps57
     go_wp2
     all_goals go_ret
     all_goals exact⟨Says.no rfl (HN.out),hbA⟩
  ·have e1:(d.value.k == 0)=false:=by simpa using z0
   have e2:(0 == d.value.k)=false:=by simpa using fun h=>z0 (h:(0:Int)=d.value.k).symm
   clear hz z0;rcases hr with ⟨rfl,rfl⟩ | ⟨rfl,ht1,ht2⟩
   ·go_enter Tryz.func57,Tryz.ntmps57
    go_wp2
    all_goals go_ret
    all_goals exact⟨Says.no rfl (HN.out),hbA⟩
   ·go_enter Tryz.func57,Tryz.ntmps57
    go_wp2
    all_goals go_ret
    all_goals exact⟨Says.no rfl (HN.out),hbA⟩
 obtain⟨z0,z1,z2⟩:=hz;have HZ:Hid (d.value.k=0/\d.value.n=0/\d.value.s=⟨#[]⟩):=⟨z0,z1,z2⟩;rw[z0,z1,z2] at hbA hM0 hV0 ⊢;clear z0 z1 z2;rcases hr with ⟨rfl,rfl⟩ | ⟨rfl,ht1,ht2⟩
 ·go_enter Tryz.func57,Tryz.ntmps57
  go_wp2;go_loopw [57] (fun i wr=>∃(k:Nat),k<=d.frames.length/\i=.int .i64 k/\Hid (∀q (h:q<d.frames.length),q<k->Fits fs d.frames[q].fn d.frames[q].pc d.frames[q].locals.length d.frames[q].stack.length (decide ((q:Int)=(d.frames.length:Int)-1)))/\wr.heap[w.heap.size]?=some (.cells #[.slice a1 nt c1,.slice a2 fs.length c2] 42 (0,0))/\wr.heap[w.heap.size+1]?=some (.cells #[.slice fa d.frames.length fc,.slice ha d.heap.length hcp,.int .i64 d.made,.slice oa d.out.length oc,.int .i64 0,.int .i64 0,.int .i64 0,.int .i64 0,.string ⟨#[]⟩,.int .i64 d.steps] 48 (0,0))/\Below w.heap.size w wr) (fun i _=>d.frames.length-(intOf i).toNat)
  case atStart=>exact⟨0,by omega,rfl,fun _ _ h=>absurd h (Nat.not_lt_zero _),hM0,hV0,hbA⟩
  case round=>
   obtain⟨k,hk,rfl,hall,hM,hV,hb⟩:=hrel;clear hM0 hV0 hbA;by_cases hlt:k<d.frames.length
   ·obtain⟨b,off,la,lc,sa,sc,rfl,-,e1,e2,e3,e4,-,-⟩:=hm.frs k hlt;have e1':=cell_later hb e1;have e2':=cell_later hb e2;have e3':=cell_later hb e3;have e4':=cell_later hb e4;clear e1 e2 e3 e4;have hsl:=(hx.locals _ (n_l hlt)).1;have hss:=(hx.stack _ (n_l hlt)).1;have hMn:=al hM (.cells #[.int .i64 d.frames[k].fn,.int .i64 d.frames[k].pc,.slice la d.frames[k].locals.length lc,.slice sa d.frames[k].stack.length sc] 163);have hVn:=al hV (.cells #[.int .i64 d.frames[k].fn,.int .i64 d.frames[k].pc,.slice la d.frames[k].locals.length lc,.slice sa d.frames[k].stack.length sc] 163);have hBn:=hb.alloc hb.size (.cells #[.int .i64 d.frames[k].fn,.int .i64 d.frames[k].pc,.slice la d.frames[k].locals.length lc,.slice sa d.frames[k].stack.length sc] 163);have m1:=aa hMn;have v1:=aa hVn;go_wp2_with fail
    refine (fk _ _ _ _ _ fs base G _ _ _ _ _ _ (hmf.mono hBn) (hH.mono hBn) FF).mono ?_;rintro e w1 ⟨⟨q,rfl,hq⟩,hb1⟩;have hM1:=ab hMn hb1;have hV1:=ab hVn hb1;have hB1:=hBn.trans (hb1.mono hBn.size);have HQ:Hid (q=true↔Fits fs d.frames[k].fn d.frames[k].pc d.frames[k].locals.length d.frames[k].stack.length (decide ((k:Int)=(d.frames.length:Int)-1))):=hq;clear e1' e2' e3' e4' hMn hVn hBn m1 v1 hb1 hM hV hb hq
    cases q with
    | true=>
     go_wp2;go_roundw
     case rel=>exact⟨k+1,by omega,by go_num,fun q hq hqk=>(by
      by_cases e:q=k
      ·subst e;exact HQ.out.1 (by simp)
      ·exact hall.out q hq (by omega)),hM1,hV1,hB1⟩
     case measure=>simp[intOf];omega
    | false=>
     go_wp2;go_ret
     exact⟨Says.no rfl (fun h=>by have:=HQ.out.2 ((HF.out h).2.2.2 k hlt);cases this),hB1⟩
   ·go_wp2;go_ret
    exact⟨Says.yes rfl (.inr ⟨HR.out,by omega,by omega,HZ.out,fun i hi=>hall.out i hi (by omega)⟩),hb⟩
 ·go_enter Tryz.func57,Tryz.ntmps57
  go_wp2;go_loopw [57] (fun i wr=>∃(k:Nat),k<=d.frames.length/\i=.int .i64 k/\Hid (∀q (h:q<d.frames.length),q<k->Fits fs d.frames[q].fn d.frames[q].pc d.frames[q].locals.length d.frames[q].stack.length (decide ((q:Int)=(d.frames.length:Int)-1)))/\wr.heap[w.heap.size]?=some (.cells #[.slice a1 nt c1,.slice a2 fs.length c2] 42 (0,0))/\wr.heap[w.heap.size+1]?=some (.cells #[.slice fa d.frames.length fc,.slice ha d.heap.length hcp,.int .i64 d.made,.slice oa d.out.length oc,.int .i64 2,.int .i64 tr,.int .i64 0,.int .i64 0,.string ⟨#[]⟩,.int .i64 d.steps] 48 (0,0))/\Below w.heap.size w wr) (fun i _=>d.frames.length-(intOf i).toNat)
  case atStart=>exact⟨0,by omega,rfl,fun _ _ h=>absurd h (Nat.not_lt_zero _),hM0,hV0,hbA⟩
  case round=>
   obtain⟨k,hk,rfl,hall,hM,hV,hb⟩:=hrel;clear hM0 hV0 hbA;by_cases hlt:k<d.frames.length
   ·obtain⟨b,off,la,lc,sa,sc,rfl,-,e1,e2,e3,e4,-,-⟩:=hm.frs k hlt;have e1':=cell_later hb e1;have e2':=cell_later hb e2;have e3':=cell_later hb e3;have e4':=cell_later hb e4;clear e1 e2 e3 e4;have hsl:=(hx.locals _ (n_l hlt)).1;have hss:=(hx.stack _ (n_l hlt)).1;have hMn:=al hM (.cells #[.int .i64 d.frames[k].fn,.int .i64 d.frames[k].pc,.slice la d.frames[k].locals.length lc,.slice sa d.frames[k].stack.length sc] 163);have hVn:=al hV (.cells #[.int .i64 d.frames[k].fn,.int .i64 d.frames[k].pc,.slice la d.frames[k].locals.length lc,.slice sa d.frames[k].stack.length sc] 163);have hBn:=hb.alloc hb.size (.cells #[.int .i64 d.frames[k].fn,.int .i64 d.frames[k].pc,.slice la d.frames[k].locals.length lc,.slice sa d.frames[k].stack.length sc] 163);have m1:=aa hMn;have v1:=aa hVn;go_wp2_with fail
    refine (fk _ _ _ _ _ fs base G _ _ _ _ _ _ (hmf.mono hBn) (hH.mono hBn) FF).mono ?_;rintro e w1 ⟨⟨q,rfl,hq⟩,hb1⟩;have hM1:=ab hMn hb1;have hV1:=ab hVn hb1;have hB1:=hBn.trans (hb1.mono hBn.size);have HQ:Hid (q=true↔Fits fs d.frames[k].fn d.frames[k].pc d.frames[k].locals.length d.frames[k].stack.length (decide ((k:Int)=(d.frames.length:Int)-1))):=hq;clear e1' e2' e3' e4' hMn hVn hBn m1 v1 hb1 hM hV hb hq
    cases q with
    | true=>
     go_wp2;go_roundw
     case rel=>exact⟨k+1,by omega,by go_num,fun q hq hqk=>(by
      by_cases e:q=k
      ·subst e;exact HQ.out.1 (by simp)
      ·exact hall.out q hq (by omega)),hM1,hV1,hB1⟩
     case measure=>simp[intOf];omega
    | false=>
     go_wp2;go_ret
     exact⟨Says.no rfl (fun h=>by have:=HQ.out.2 ((HF.out h).2.2.2 k hlt);cases this),hB1⟩
   ·go_wp2;go_ret
    exact⟨Says.yes rfl (.inr ⟨HR.out,by omega,by omega,HZ.out,fun i hi=>hall.out i hi (by omega)⟩),hb⟩
theorem framesOk_any(a1 a2:Option Addr)(nt c1 c2:Nat)(fs:List Fn)(base G:Nat)(fa ha oa:Option Addr)(fc hcp oc:Nat)(d:VmD)(w:World)(hx:bU d)(hm:VmAt w 0 fa ha oa d)(hmf:FnsAt w 0 a2 fs)(hH:Hs w base G fs.length fs)(FF:∀k (hk:k<fs.length),Fine fs fs[k].code) :
  Calls Tryz.prog 57 #[.agg #[.slice a1 nt c1,.slice a2 fs.length c2],.slice (some ⟨G,0,none⟩) fs.length fs.length,.agg (aQ fa ha oa fc hcp oc d)] w fun e w'=>Says (bA fs d) e/\Below w.heap.size w w':=by
 by_cases hs:d.status=1
 ·exact frames_done a1 a2 nt c1 c2 fs G fa ha oa fc hcp oc d w hx hs
 ·by_cases hr:Run d
  ·exact frames_some a1 a2 nt c1 c2 fs base G fa ha oa fc hcp oc d w hx hm hmf hH FF _ _ rfl rfl hr
  ·exact frames_bad a1 a2 nt c1 c2 fs G fa ha oa fc hcp oc d w hx hs hr
def FrOk (fs:List Fn)(x:Fr)(r:Int)(last:Bool):Prop:=Fits fs x.fn x.pc x.locals.length x.stack.length last/\bu x.locals fs.length r=true/\bu x.stack fs.length r=true
theorem ci(a1 a2 la sa:Option Addr)(nt c1 c2 lc sc:Nat)(fs:List Fn)(x:Fr)(r:Int)(last:Bool)(w:World)(hn:fs.length<=1048576)(hm:FnsAt w 0 a2 fs)(FF:∀k (hk:k<fs.length),Fine fs fs[k].code)
  (hsl:aK x.locals)(hss:aK x.stack)(hvl:aO w 0 la x.locals)(hvs:aO w 0 sa x.stack) :
  Calls Tryz.prog 89 #[.agg #[.slice a1 nt c1,.slice a2 fs.length c2],.agg #[.int .i64 x.fn,.int .i64 x.pc,.slice la x.locals.length lc,.slice sa x.stack.length sc],.int .i64 r,.bool last] w fun e w'=>Says (FrOk fs x r last) e/\Below w.heap.size w w':=by
 have hbA:Below w.heap.size w ((w.alloc (.cells #[.slice a1 nt c1,.slice a2 fs.length c2] 42)).alloc (.cells #[.int .i64 x.fn,.int .i64 x.pc,.slice la x.locals.length lc,.slice sa x.stack.length sc] 163)):=(gM.alloc nL _).alloc (by simp) _;have hll:=hsl.1;have hsl1:=hss.1;by_cases hf:0<=x.fn/\x.fn<(fs.length:Int)
 case neg=>
  have hf':(decide (0<=x.fn) && decide (x.fn<=(fs.length:Int)-1))=false:=by rw[Bool.eq_false_iff];simp;omega
  go_enter Tryz.func89,Tryz.ntmps89
  go_wp2_with (go_at_call 45;refine (aB _ _ _ _).mono ?_;rintro e w' ⟨rfl,hw⟩;rw[hw,hf'];clear hw w')
  go_ret
  exact⟨Says.no rfl (fun h=>absurd h.1 (fz (by omega))),hbA⟩
 have hf':(decide (0<=x.fn) && decide (x.fn<=(fs.length:Int)-1))=true:=by simp;omega
 obtain⟨i,hxi⟩:∃i:Nat,x.fn=i:=⟨x.fn.toNat,by omega⟩;have hi:i<fs.length:=by omega
 clear hf;obtain⟨b,off,ca,cc,rfl,-,d1,d2,d3,d4⟩:=hm i hi;have d1':=cell_later hbA d1;have d2':=cell_later hbA d2;have d3':=cell_later hbA d3;clear d1 d2 d3;have F:=FF i hi;have hmost:=F.most;rw[hxi] at hf' hbA d1' d2' d3' ⊢;have HXI:Hid (x.fn=(i:Int)):=hxi;clear hxi;obtain⟨wx,hwx⟩:∃wx,wx=((w.alloc (.cells #[.slice a1 nt c1,.slice (some ⟨b,off,none⟩) fs.length c2] 42)).alloc (.cells #[.int .i64 (i:Int),.int .i64 x.pc,.slice la x.locals.length lc,.slice sa x.stack.length sc] 163)).alloc (.cells #[.int .i64 fs[i].params,.int .i64 fs[i].locals,.slice ca fs[i].code.length cc] 107):=⟨_,rfl⟩;have hMx:wx.heap[w.heap.size]?=some (.cells #[.slice a1 nt c1,.slice (some ⟨b,off,none⟩) fs.length c2] 42 (0,0)):=by rw[hwx];exact al (al (ah _ _ _) _) _
 have hFx:wx.heap[w.heap.size+1]?=some (.cells #[.int .i64 (i:Int),.int .i64 x.pc,.slice la x.locals.length lc,.slice sa x.stack.length sc] 163 (0,0)):=by rw[hwx];exact al (ax _ _ _ _ (by simp)) _
 have hXx:wx.heap[w.heap.size+1+1]?=some (.cells #[.int .i64 fs[i].params,.int .i64 fs[i].locals,.slice ca fs[i].code.length cc] 107 (0,0)):=by rw[hwx];exact ax _ _ _ _ (by simp)
 have hbx:Below w.heap.size w wx:=by rw[hwx];exact hbA.alloc hbA.size _
 go_enter Tryz.func89,Tryz.ntmps89
 go_wp2_with (go_at_call 45;refine (aB _ _ _ _).mono ?_;rintro e w' ⟨rfl,hw⟩;rw[hw,hf'];clear hw w')
 rw[<-hwx];clear hwx d1' d2' d3' hf' hbA;refine (cO _ _ _ _ _ fs i _ hi hn (hm.mono hbx) F).mono ?_;rintro e w1 ⟨g,cap,d,rfl,-,hD,hH,hb1⟩;have P:=hD.hts F;have hdl:Hid (d.length=fs[i].code.length):=P.len;have hM1:=ab hMx hb1;have hF1:=ab hFx hb1;have hX1:=ab hXx hb1;have hB1:=hbx.trans (hb1.mono hbx.size);have y1:=aa hM1;have z1:=aa hF1;have x1:=aa hX1;clear hMx hFx hXx hb1 hbx;by_cases hl:(x.locals.length:Int)=fs[i].locals
 case neg=>
  have hl':((x.locals.length:Int) != fs[i].locals)=true:=by simpa using hl
  have HL:Hid ((x.locals.length:Int)≠fs[i].locals):=hl;clear hl;go_wp2;go_ret
  exact⟨Says.no rfl (fun h=>absurd h.1 (by rw[HXI.out];exact fits_locals hi HL.out)),hB1⟩
 have HL:Hid ((x.locals.length:Int)=fs[i].locals):=hl;have hl':((x.locals.length:Int) != fs[i].locals)=false:=by simpa using hl
 clear hl;by_cases hp:0<=x.pc/\x.pc<(fs[i].code.length:Int)
 case neg=>
  have hp':(decide (0<=x.pc) && decide (x.pc<=(fs[i].code.length:Int)-1))=false:=by rw[Bool.eq_false_iff];simp;omega
  go_wp2_with (go_at_call 45;refine (aB _ _ _ _).mono ?_;rintro e w' ⟨rfl,hw⟩;rw[hw,hp'];clear hw w')
  go_ret
  exact⟨Says.no rfl (fun h=>absurd h.1 (by rw[HXI.out];exact fG hi (by omega))),hB1⟩
 have hp':(decide (0<=x.pc) && decide (x.pc<=(fs[i].code.length:Int)-1))=true:=by simp;omega
 obtain⟨p,hxp⟩:∃p:Nat,x.pc=p:=⟨x.pc.toNat,by omega⟩;have hpl:p<fs[i].code.length:=by omega
 have hpd:p<d.length:=by rw[hdl.out];exact hpl
 rw[hxp] at hp' hF1 z1 ⊢;have HXP:Hid (x.pc=(p:Int)):=hxp;clear hp hxp;have hc0:=hH.cell hpd;have hlow:=P.low p hpd;have hhigh:=P.high p hpd;by_cases hm1:d[p]<0
 ·have HM:Hid (d[p]<0):=hm1;go_wp2_with (go_at_call 45;refine (aB _ _ _ _).mono ?_;rintro e w' ⟨rfl,hw⟩;rw[hw,hp'];clear hw w')
  go_ret
  exact⟨Says.no rfl (fun h=>absurd h.1 (by rw[HXI.out,HXP.out];exact fits_none hi hD hpd HM.out)),hB1⟩
 have HM:Hid (0<=d[p]):=by show 0<=d[p];omega
 go_wp2_with (first | (go_at_call 45;refine (aB _ _ _ _).mono ?_;rintro e w' ⟨rfl,hw⟩;rw[hw,hp'];clear hw w'))
 refine (cN _ _ _ _ _ _ _ _ _ _ _ hn hsl (hvl.mono hB1)).mono ?_;rintro e w2 ⟨rfl,hb2⟩;have hM2:=ab hM1 hb2;have hF2:=ab hF1 hb2;have hX2:=ab hX1 hb2;have hH2:=hH.mono hb2;have hB2:=hB1.trans (hb2.mono hB1.size);have y2:=aa hM2;have z2:=aa hF2;have x2:=aa hX2;clear y1 z1 x1 hM1 hF1 hX1 hB1 hb2 hc0 hH hp' hl';by_cases hv:bu x.locals fs.length r=true
 case neg=>
  have HV:Hid (¬bu x.locals fs.length r=true):=hv;have hv':bu x.locals fs.length r=false:=by simpa using hv
  clear hv;go_wp2;go_ret
  exact⟨Says.no rfl (fun h=>HV.out h.2.1),hB2⟩
 have HV:Hid (bu x.locals fs.length r=true):=hv;go_wp2_with fail
 refine (cN _ _ _ _ _ _ _ _ _ _ _ hn hss (hvs.mono hB2)).mono ?_;rintro e w3 ⟨rfl,hb3⟩;have hF3:=ab hF2 hb3;have hX3:=ab hX2 hb3;have hH3:=hH2.mono hb3;have hB3:=hB2.trans (hb3.mono hB2.size);have z3:=aa hF3;have x3:=aa hX3;have hc3:=hH3.cell hpd;clear y2 z2 x2 hM2 hF2 hX2 hb3 hH2 hv;by_cases hu:bu x.stack fs.length r=true
 case neg=>
  have HU:Hid (¬bu x.stack fs.length r=true):=hu;have hu':bu x.stack fs.length r=false:=by simpa using hu
  clear hu;go_wp2;go_ret
  exact⟨Says.no rfl (fun h=>HU.out h.2.2),hB3⟩
 have HU:Hid (bu x.stack fs.length r=true):=hu;have d4':=d4.mono hB3
 cases last with
 | true=>
  go_wp2;go_quiet (fail)
  go_wp2;go_ret
  refine⟨⟨_,rfl,?_⟩,aC hB3 _⟩;unfold FrOk;rw[HXI.out,HXP.out,fits_last hi hD hpd hdl.out HL.out HM.out];constructor
  ·intro h;exact⟨by simpa using h,HV.out,HU.out⟩
  ·rintro⟨h,-⟩;simpa using h
 | false=>
  cases p with
  | zero=>
   go_wp2;go_ret
   exact⟨Says.no rfl (fun h=>absurd h.1 (by rw[HXI.out,HXP.out];exact fits_first)),hB3⟩
  | succ p=>
   have hpd0:p<d.length:=by omega
   have hpl0:p<fs[i].code.length:=by omega
   obtain⟨cb,coff,rfl,-,e1,-⟩:=d4' p hpl0;have hc1:=hH3.cell hpd0;have hlow0:=P.low p hpd0;by_cases hm0:d[p]<0
   ·have HM0:Hid (d[p]<0):=hm0;go_wp2;go_ret
    refine⟨Says.no rfl (fun h=>?_),hB3⟩;have h1:=h.1;rw[HXI.out,HXP.out,bT hi hD hpd hdl.out HL.out HM.out] at h1;exact absurd h1.1 (by have:=HM0.out;omega)
   have HM0:Hid (0<=d[p]):=by show 0<=d[p];omega
   by_cases ho3:fs[i].code[p].1=23
   ·have HO:Hid (fs[i].code[p].1=23\/fs[i].code[p].1=24):=.inl ho3;have b3:(fs[i].code[p].1 == 23)=true:=by simpa using ho3
    clear ho3;go_wp2;go_quiet (fail)
    go_wp2;go_ret
    refine⟨⟨_,rfl,?_⟩,aC hB3 _⟩;unfold FrOk;rw[HXI.out,HXP.out,bT hi hD hpd hdl.out HL.out HM.out];constructor
    ·intro h;exact⟨⟨HM0.out,HO.out,by simpa using h⟩,HV.out,HU.out⟩
    ·rintro⟨⟨-,-,h⟩,-⟩;simpa using h
   have b3:(fs[i].code[p].1 == 23)=false:=by simpa using ho3
   by_cases ho4:fs[i].code[p].1=24
   ·have HO:Hid (fs[i].code[p].1=23\/fs[i].code[p].1=24):=.inr ho4;have b4:(fs[i].code[p].1 == 24)=true:=by simpa using ho4
    clear ho3 ho4;go_wp2;go_quiet (fail)
    go_wp2;go_ret
    refine⟨⟨_,rfl,?_⟩,aC hB3 _⟩;unfold FrOk;rw[HXI.out,HXP.out,bT hi hD hpd hdl.out HL.out HM.out];constructor
    ·intro h;exact⟨⟨HM0.out,HO.out,by simpa using h⟩,HV.out,HU.out⟩
    ·rintro⟨⟨-,-,h⟩,-⟩;simpa using h
   ·have b4:(fs[i].code[p].1 == 24)=false:=by simpa using ho4
    have HO:Hid (¬(fs[i].code[p].1=23\/fs[i].code[p].1=24)):=fun h=>h.elim ho3 ho4
    clear ho3 ho4;go_wp2;go_quiet (fail)
    go_wp2;go_ret
    refine⟨Says.no rfl (fun h=>?_),aC hB3 _⟩;have h1:=h.1;rw[HXI.out,HXP.out,bT hi hD hpd hdl.out HL.out HM.out] at h1;exact HO.out h1.2.1
theorem infoTSrc:(Tryz.prog.info? 273).map (fun i=>(i.zero,i.size,i.bytes))=some (some (.agg #[.int .i64 0,.int .i64 0,.int .i64 0,.int .i64 0,.string ByteArray.empty]),5,48):=by kernel_rfl
theorem infoTExFrame:(Tryz.prog.info? 227).map (fun i=>(i.zero,i.size,i.bytes))=some (some (.agg #[.int .i64 0,.int .i64 0,.slice none 0 0,.slice none 0 0]),4,64):=by kernel_rfl
theorem infoTExRec:(Tryz.prog.info? 230).map (fun i=>(i.zero,i.size,i.bytes))=some (some (.agg #[.slice none 0 0]),1,24):=by kernel_rfl
theorem infoTExit:(Tryz.prog.info? 175).map (fun i=>(i.zero,i.size,i.bytes))=some (some (.agg #[.int .i64 0,.int .i64 0,.int .i64 0,.int .i64 0,.int .i64 0,.slice none 0 0,.slice none 0 0]),7,88):=by kernel_rfl
theorem infoTFOp:(Tryz.prog.info? 177).map (fun i=>(i.zero,i.size,i.bytes))=some (some (.agg #[.int .i64 0,.int .i64 0,.int .i64 0,.int .i64 0,.int .i64 0,.int .i64 0,.int .i64 0,.int .i64 0,.int .i64 0,.string ByteArray.empty]),10,88):=by kernel_rfl
end Go.Proofs.YtdlkbbgmjilccaaGreatDoor
