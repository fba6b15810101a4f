/- RV22 -/
import Derived.Test.YtbjmgmmekmfjhaaGreatDoorRV20
import Derived.Test.YtbjmgmmekmfjhaaGreatDoorRV18
set_option maxHeartbeats 32000000
set_option maxRecDepth 100000
namespace Go.Proofs.YtbjmgmmekmfjhaaGreatDoor
open Go.RowKit
def VB (w:World)(lo:Nat)(a:Option Addr)(vs:List Vl):Prop:=aQ w lo a vs/\∃g,a=some ⟨g,0,none⟩/\lo<=g/\a7 w g vs.length
theorem a7.above{w w':World}{lo g n:Nat}(h:a7 w g n)(hb:aZ lo w w')(hg:lo<=g):a7 w' g n:=by
 obtain⟨c,h1,h2⟩:=h;exact⟨c,dc hb hg h1,h2⟩
theorem VB.mono{w w':World}{lo:Nat}{a:Option Addr}{vs:List Vl}(h:VB w lo a vs)(hb:Below w.heap.size w w'):VB w' lo a vs:=by
 obtain⟨h1,g,h2,h3,h4⟩:=h;exact⟨h1.mono hb,g,h2,h3,h4.mono hb⟩
theorem VB.above{w w':World}{lo:Nat}{a:Option Addr}{vs:List Vl}(h:VB w lo a vs)(hb:aZ lo w w'):VB w' lo a vs:=by
 obtain⟨h1,g,h2,h3,h4⟩:=h;exact⟨h1.above hb,g,h2,h3,h4.above hb h3⟩
theorem VB.low{w:World}{lo lo':Nat}{a:Option Addr}{vs:List Vl}(h:VB w lo a vs)(hl:lo'<=lo):VB w lo' a vs:=by
 obtain⟨h1,g,h2,h3,h4⟩:=h;exact⟨h1.low hl,g,h2,Nat.le_trans hl h3,h4⟩
def RB (w:World)(lo:Nat)(a:Option Addr)(rs:List (List Vl)):Prop:=∃R cur,a=some ⟨R,0,none⟩/\lo<=R/\w.heap[R]?=some (.cells cur 125 (0,0))/\cur.size=rs.length*1 /\
 ∀j (hj:j<rs.length),∃g,cur[j]?=some (.slice (some ⟨g,0,none⟩) rs[j].length rs[j].length)/\VB w lo (some ⟨g,0,none⟩) rs[j]
theorem RB.mono{w w':World}{lo:Nat}{a:Option Addr}{rs:List (List Vl)}(h:RB w lo a rs)(hb:Below w.heap.size w w'):RB w' lo a rs:=by
 obtain⟨F,cur,h1,h2,h3,h4,h5⟩:=h;refine⟨F,cur,h1,h2,ah h3 hb,h4,fun j hj=>?_⟩;obtain⟨g,d1,d2⟩:=h5 j hj;exact⟨g,d1,d2.mono hb⟩
theorem RB.low{w:World}{lo lo':Nat}{a:Option Addr}{rs:List (List Vl)}(h:RB w lo a rs)(hl:lo'<=lo):RB w lo' a rs:=by
 obtain⟨F,cur,h1,h2,h3,h4,h5⟩:=h;refine⟨F,cur,h1,Nat.le_trans hl h2,h3,h4,fun j hj=>?_⟩;obtain⟨g,d1,d2⟩:=h5 j hj;exact⟨g,d1,d2.low hl⟩
theorem toRec_b(a:Option Addr)(vs:List Vl)(cap:Nat)(w:World)(hn:vs.length<=1048576)(hm:aQ w 0 a vs) :
  Calls Tryz.prog 77 #[.agg #[.slice a vs.length cap]] w fun e w'=>∃g,w.heap.size<=g/\e=.returned (.agg #[.slice (some ⟨g,0,none⟩) vs.length vs.length])/\VB w' w.heap.size (some ⟨g,0,none⟩) vs/\Below w.heap.size w w':=by
 go_enter Tryz.func77,Tryz.ntmps77
 go_wp2_with fail
 have hbA:Below w.heap.size w (((w.alloc (.cells #[.slice a vs.length cap] 120)).alloc (.cells #[.slice none 0 0] 125)).alloc (.cells #[.slice none 0 0] 125)):=
  ((b_r.alloc n_l _).alloc (by simp) _).alloc (by simp;omega) _
 refine (cz a vs cap _ hn (hm.mono hbA)).mono ?_;rintro e w1 ⟨rfl,hv0,hvb,hb⟩;have hv:VB w1 _ _ vs:=⟨hv0,_,rfl,Nat.le_refl _,hvb⟩;clear hv0 hvb;have hR:=ah (au (al (w.alloc (.cells #[.slice a vs.length cap] 120)) #[.slice none 0 0] 125) (.cells #[.slice none 0 0] 125)) hb;have hO:=ah (al ((w.alloc (.cells #[.slice a vs.length cap] 120)).alloc (.cells #[.slice none 0 0] 125)) #[.slice none 0 0] 125) hb;simp only[World.size_alloc] at hR hO hv
 have r1:=ae hR;have r2:=aq hR;have o1:=ae hO;have o2:=aq hO;have hb1:Below w.heap.size w w1:=hbA.trans (hb.mono (by simp;omega));go_wp2;refine bodyPost_ret (v:=.agg #[.slice (some ⟨w.heap.size+1+1+1,0,none⟩) vs.length vs.length]) (by simp[results,Tryz.results77,go_sem,r1]) rfl ⟨_,by omega,rfl,?_,?_⟩
 ·exact (hv.above (((aZ.refl _ _).setCell (by simp) _).setCell (by simp) _)).low (by omega)
 ·exact (hb1.setCell (by simp;omega) _).setCell (by simp) _
theorem eS(a:Option Addr)(rs:List (List Vl))(cap:Nat)(w:World)(hn:rs.length<=1048576)(hc:∀r∈rs,aE r)(hm:bT w 0 a rs) :
  Calls Tryz.prog 30 #[.slice a rs.length cap] w fun e w'=>e=.returned (.slice (some ⟨w.heap.size,0,none⟩) rs.length rs.length)/\RB w' w.heap.size (some ⟨w.heap.size,0,none⟩) rs/\Below w.heap.size w w':=by
 obtain⟨i0,hi,hz0,hz1,hz2⟩:=info_parts info125;go_enter Tryz.func30,Tryz.ntmps30
 go_wp2_with (first | (at_make;refine wpList_make_full _ rfl _ _ 59 rfl w.heap.size 125 i0 (.agg #[.slice none 0 0]) 1 Tryz.underlying59 hi hz0 hz1 _ _ _ _ rs.length rfl rfl rfl rfl (by rw[hz2];omega) (by unfold maxLen;omega) n_l ?_;intro w1 hown hgrow))
 obtain⟨cur0,hblk,hsz⟩:=aY hown;have hb0:Below w.heap.size w w1:=b_r.grown hgrow n_l (by intro k hk;cases hk);clear hown hgrow hi hz0 hz1 hz2
 go_loopw [4] (fun i wr=>∃(k:Nat) (cur:Array Value),k<=rs.length/\i=.int .i64 k/\wr.heap[w.heap.size]?=some (.cells cur 125 (0,0))/\cur.size=rs.length*1 /\
   (∀j (hj:j<rs.length),j<k->∃g,cur[j]?=some (.slice (some ⟨g,0,none⟩) rs[j].length rs[j].length)/\VB wr (w.heap.size+1) (some ⟨g,0,none⟩) rs[j])/\Below w.heap.size w wr) (fun i _=>rs.length-(intOf i).toNat)
 case atStart=>exact⟨0,cur0,by omega,rfl,hblk,hsz,fun j _ h=>by omega,hb0⟩
 case round=>
  obtain⟨k,cur,hk,rfl,hblk,hsz,hdone,hb⟩:=hrel;by_cases hlt:k<rs.length
  ·obtain⟨b,off,ca,cc,rfl,-,c1,c4⟩:=hm k hlt;have c1':=cell_later hb c1;clear c1;have hgs:w.heap.size<wr.heap.size:=ay hblk;have hck:=(hc rs[k] (g_m hlt)).1;go_wp2_with fail
   refine (toRec_b _ _ _ _ hck (c4.mono hb)).mono ?_;rintro e w2 ⟨g,hg,rfl,hcode,hb2⟩;have hblk2:=ah hblk hb2;have hfz:=aq hblk2;have hcl:w2.cell? ⟨w.heap.size,k,none⟩=some cur[k]:=by rw[ae hblk2];simp
   have hb3:Below w.heap.size w w2:=hb.trans (hb2.mono hb.size);go_wp2;go_roundw
   case rel=>
    have hab:aZ (w.heap.size+1) w2 (w2.setCell ⟨w.heap.size,k,none⟩ (.slice (some ⟨g,0,none⟩) rs[k].length rs[k].length)):=(aZ.refl _ _).setCell (by simp) _;refine⟨k+1,cur.setIfInBounds k (.slice (some ⟨g,0,none⟩) rs[k].length rs[k].length),by omega,by go_num,ak hblk2 _,by simpa using hsz,?_,hb3.setCell n_l _⟩;intro j hj hjk;by_cases e:j=k
    ·subst e;exact⟨g,aC _ (by omega),(hcode.low (by omega)).above hab⟩
    ·obtain⟨g',d3,d4⟩:=hdone j hj (by omega);exact⟨g',by rw[aj _ (by omega)];exact d3,(d4.mono hb2).above hab⟩
   case measure=>simp[intOf];omega
  ·go_wp2;go_ret
   refine⟨rfl,⟨w.heap.size,cur,rfl,Nat.le_refl _,hblk,hsz,fun j hj=>?_⟩,hb⟩;obtain⟨g',d3,d4⟩:=hdone j hj (by omega);exact⟨g',d3,d4.low (by omega)⟩
def recB (nf hl:Nat)(r:List Vl):Bool:=decide (r.length<=6) && bY r nf hl
def ic (nf:Nat)(rs:List (List Vl)):Prop:=rs.length<=120/\rs.all (recB nf rs.length)=true
theorem litR_any(ca:Option Addr)(cc:Nat)(r:List Vl)(a1 a2 ha:Option Addr)(nt c1 nf c2 hl hcp Mb Rb:Nat)(w:World)(hs:aE r)(hm:aQ w 0 ca r)(hM:w.heap[Mb]?=some (.cells #[.slice a1 nt c1,.slice a2 nf c2] 36 (0,0)))(hR:w.heap[Rb]?=some (.cells #[.slice ha hl hcp] 59 (0,0))) :
  Calls Tryz.prog 129 #[.agg #[.slice ca r.length cc],.pointer (some ⟨Mb,0,none⟩),.pointer (some ⟨Rb,0,none⟩)] w fun e w'=>e=.returned (.bool (!recB nf hl r))/\Below w.heap.size w w':=by
 have hbA:Below w.heap.size w (w.alloc (.cells #[.slice ca r.length cc] 125)):=b_r.alloc n_l _;have x0:=ae (al w #[.slice ca r.length cc] 125);have x1:=ae (au hM (.cells #[.slice ca r.length cc] 125));have x2:=ae (au hR (.cells #[.slice ca r.length cc] 125));have hrl:=hs.1;by_cases h6:6<r.length
 ·have g6:(6:Int)<(r.length:Int):=by omega
  have HO:Hid (6<r.length):=h6;clear h6;go_enter Tryz.func129,Tryz.ntmps129
  go_wp2;go_ret
  exact⟨ax (by unfold recB;rw[show decide (r.length<=6)=false by have:=HO.out;simpa using this];rfl),hbA⟩
 ·have g6:¬(6:Int)<(r.length:Int):=by omega
  have HO:Hid (¬6<r.length):=h6;clear h6;go_enter Tryz.func129,Tryz.ntmps129
  go_wp2_with fail
  refine (allIn_any _ _ _ _ _ _ _ _ _ _ _ hs (hm.mono hbA)).mono ?_;rintro e w1 ⟨rfl,hb⟩;clear x0 x1 x2;go_wp2;go_ret
  exact⟨ax (by unfold recB;rw[show decide (r.length<=6)=true by have:=HO.out;simpa using this];rfl),hbA.trans (hb.mono hbA.size)⟩
theorem firstBadR_any(a:Option Addr)(rs:List (List Vl))(cap:Nat)(a1 a2 ha:Option Addr)(nt c1 nf c2 hl hcp Mb Rb:Nat)(w:World)(hn:rs.length<=1048576)(hc:∀r∈rs,aE r)(hm:bT w 0 a rs)(hM:w.heap[Mb]?=some (.cells #[.slice a1 nt c1,.slice a2 nf c2] 36 (0,0)))(hR:w.heap[Rb]?=some (.cells #[.slice ha hl hcp] 59 (0,0))) :
  Calls Tryz.prog 182 #[.slice a rs.length cap,.func (.func 129) #[] #[.pointer (some ⟨Mb,0,none⟩),.pointer (some ⟨Rb,0,none⟩)]] w fun e w'=>ia (rs.all (recB nf hl)) e/\Below w.heap.size w w':=by
 go_enter Tryz.func182,Tryz.ntmps182
 go_wp2;go_loopw [8] (fun i wr=>∃(k:Nat),k<=rs.length/\i=.int .i64 k/\Hid ((rs.take k).all (recB nf hl)=true)/\Below w.heap.size w wr) (fun i _=>rs.length-(intOf i).toNat)
 case atStart=>exact⟨0,by omega,rfl,rfl,Below.refl _ _⟩
 case round=>
  obtain⟨k,hk,rfl,hall,hb⟩:=hrel;by_cases hlt:k<rs.length
  ·obtain⟨b,off,ca,cc,rfl,-,d1,d2⟩:=hm k hlt;have d1':=cell_later hb d1;clear d1;have hck:=hc rs[k] (g_m hlt);have hMk:=ah hM hb;have hRk:=ah hR hb;go_wp2_with fail
   refine (litR_any ca cc rs[k] a1 a2 ha nt c1 nf c2 hl hcp Mb Rb _ hck (d2.mono hb) hMk hRk).mono ?_;rintro e w1 ⟨rfl,hb1⟩;have hB:=hb.trans (hb1.mono hb.size);clear d1' hMk hRk hb1;by_cases ho:recB nf hl rs[k]=true
   ·have HO:Hid (recB nf hl rs[k]=true):=ho;go_wp2;go_roundw
    case rel=>exact⟨k+1,by omega,by go_num,b8 hlt hall.out HO.out,hB⟩
    case measure=>simp[intOf];omega
   ·have ho':recB nf hl rs[k]=false:=by simpa using ho
    have HO:Hid (recB nf hl rs[k]=false):=ho';clear ho;go_wp2;go_ret
    exact⟨⟨(k:Int),rfl,by rw[show rs.all (recB nf hl)=false from cT hlt HO.out];simp⟩,hB⟩
  ·go_wp2;go_ret
   exact⟨⟨-1,rfl,by rw[show rs.all (recB nf hl)=true from cD (by omega) hall.out];simp⟩,hb⟩
theorem hasBadR_any(a:Option Addr)(rs:List (List Vl))(cap:Nat)(a1 a2 ha:Option Addr)(nt c1 nf c2 hl hcp Mb Rb:Nat)(w:World)(hn:rs.length<=1048576)(hc:∀r∈rs,aE r)(hm:bT w 0 a rs)(hM:w.heap[Mb]?=some (.cells #[.slice a1 nt c1,.slice a2 nf c2] 36 (0,0)))(hR:w.heap[Rb]?=some (.cells #[.slice ha hl hcp] 59 (0,0))) :
  Calls Tryz.prog 128 #[.slice a rs.length cap,.func (.func 129) #[] #[.pointer (some ⟨Mb,0,none⟩),.pointer (some ⟨Rb,0,none⟩)]] w fun e w'=>e=.returned (.bool (!rs.all (recB nf hl)))/\Below w.heap.size w w':=by
 go_enter Tryz.func128,Tryz.ntmps128
 go_wp2_with fail
 refine (firstBadR_any a rs cap a1 a2 ha nt c1 nf c2 hl hcp Mb Rb _ hn hc hm hM hR).mono ?_;rintro e w1 ⟨⟨i,rfl,hi⟩,hb⟩;have HI:Hid (0<=i↔rs.all (recB nf hl)=false):=hi;clear hi;go_wp2;go_ret
 exact⟨ax (by rw[Bool.eq_iff_iff];simpa using HI.out),hb⟩
theorem heapOk_any(a1 a2:Option Addr)(nt c1 nf c2:Nat)(ha:Option Addr)(rs:List (List Vl))(hcp:Nat)(w:World)(hn:rs.length<=1048576)(hc:∀r∈rs,aE r)(hm:bT w 0 ha rs) :
  Calls Tryz.prog 80 #[.agg #[.slice a1 nt c1,.slice a2 nf c2],.slice ha rs.length hcp] w fun e w'=>e=.returned (.bool (pB (ic nf rs)))/\Below w.heap.size w w':=by
 have hbA:Below w.heap.size w ((w.alloc (.cells #[.slice a1 nt c1,.slice a2 nf c2] 36)).alloc (.cells #[.slice ha rs.length hcp] 59)):=(b_r.alloc n_l _).alloc (by simp) _;have hM0:=au (al w #[.slice a1 nt c1,.slice a2 nf c2] 36) (.cells #[.slice ha rs.length hcp] 59);have hR0:=aA (w.alloc (.cells #[.slice a1 nt c1,.slice a2 nf c2] 36)) #[.slice ha rs.length hcp] 59 (w.heap.size+1) (by simp);have r0:=ae hR0;have hmf:∀(fn:Go.Fn) (first cap:Array Value) (w:World),(Instr.makeFunc fn first cap).run Tryz.prog w=.ok (.func fn first cap) w:=fun _ _ _ _=>rfl
 by_cases h:rs.length<=120
 case neg=>
  have g:¬(rs.length:Int)<=120:=by omega
  have HN:Hid (¬ic nf rs):=fun q=>h q.1
  clear h;go_enter Tryz.func80,Tryz.ntmps80
  go_wp2;go_ret
  exact⟨ax (aJ HN.out).symm,hbA⟩
 have g:(rs.length:Int)<=120:=by omega
 have H:Hid (rs.length<=120):=h;clear h;go_enter Tryz.func80,Tryz.ntmps80
 go_wp2_with fail
 refine (hasBadR_any ha rs hcp a1 a2 ha nt c1 nf c2 rs.length hcp _ _ _ hn hc (hm.mono hbA) hM0 hR0).mono ?_;rintro e w1 ⟨rfl,hb⟩;clear r0;go_wp2;go_ret
 exact⟨bP (by first | exact⟨fun q=>⟨H.out,q⟩,fun q=>q.2⟩ | (rw[Bool.not_not];exact⟨fun q=>⟨H.out,q⟩,fun q=>q.2⟩)),hbA.trans (hb.mono hbA.size)⟩
theorem hidE{p:Prop}(h:p):Hid p:=h
def gz:Obj->Prop
 | .cells _ t _=>t≠196/\t≠3
 | _=>False
structure Kd (lo:Nat)(w w':World):Prop where
 os:w'.os=w.os
 tape:w'.tape=w.tape
 output:w'.output=w.output
 size:w.heap.size<=w'.heap.size
 block:∀k o,w.heap[k]?=some o->(k<lo\/gz o)->w'.heap[k]?=some o
theorem Kd.trans{lo:Nat}{a b c:World}(h:Kd lo a b)(k:Kd lo b c):Kd lo a c:=
 ⟨k.os.trans h.os,k.tape.trans h.tape,k.output.trans h.output,Nat.le_trans h.size k.size,fun i o hi ho=>k.block i o (h.block i o hi ho) ho⟩
theorem Kd.of{lo:Nat}{w w':World}(h:Below w.heap.size w w'):Kd lo w w':=
 ⟨h.os,h.tape,h.output,h.size,fun _ _ hi _=>ah hi h⟩
theorem Kd.setO{lo b i t:Nat}{a w:World}{c:Array Value}{fr:Nat×Nat}(h:Kd lo a w)(hb:w.heap[b]?=some (.cells c t fr))(hlo:lo<=b)(ht:¬gz (.cells c t fr))(v:Value):Kd lo a (w.setCell ⟨b,i,none⟩ v):=
 ⟨h.os,h.tape,h.output,by have:=h.size;simpa using this,fun k o hk ho=>by
  have hx:=h.block k o hk ho;by_cases e:k=b
  ·subst e;rw[hb] at hx
   cases hx;rcases ho with ho | ho
   ·omega
   ·exact absurd ho ht
  ·rw[Below.heap_setCell _ _ _ _ e];exact hx⟩
theorem Kd.setNew{lo g i:Nat}{a w:World}(h:Kd lo a w)(hg:a.heap.size<=g)(v:Value):Kd lo a (w.setCell ⟨g,i,none⟩ v):=
 ⟨h.os,h.tape,h.output,by have:=h.size;simpa using this,fun k o hk ho=>by
  have:k<a.heap.size:=(Array.getElem?_eq_some_iff.1 hk).1;rw[Below.heap_setCell _ _ _ _ (by show k≠g;omega)]
  exact h.block k o hk ho⟩
theorem Kd.grown{lo B n:Nat}{v:Value}{xs:List Value}{a w w':World}(h:Kd lo a w)(hown:w.ownsRow B 3 1 v n xs)(hg:w.grownBy w' v.ownBlock)(hlo:lo<=B):Kd lo a w':=by
 refine⟨hg.os.trans h.os,hg.tape.trans h.tape,hg.output.trans h.output,Nat.le_trans h.size hg.size,fun k o hk ho=>?_⟩;have hx:=h.block k o hk ho;have hlt:=ay hx;rw[hg.block k hlt ?_]
 ·exact hx
 ·intro hkv;rcases hown.2 with ⟨rfl,-⟩ | ⟨b,cap,cur,rfl,hb,hh,-⟩
  ·simp[Value.ownBlock] at hkv
  ·simp[Value.ownBlock] at hkv
   subst hkv;rw[hh] at hx
   cases hx;rcases ho with ho | ho
   ·omega
   ·exact absurd rfl ho.2
theorem Kd.kept{lo k:Nat}{a b:World}{c:Array Value}{t:TypeId}{fr:Nat×Nat}(h:Kd lo a b)(ho:a.heap[k]?=some (.cells c t fr))(ht:gz (.cells c t fr)):b.heap[k]?=some (.cells c t fr):=h.block k _ ho (.inr ht)
theorem Kd.below{lo B:Nat}{a b:World}(h:Kd lo a b)(hl:B<=lo)(hs:B<=a.heap.size):Below B a b:=
 ⟨h.os,h.tape,h.output,h.size,fun k hk=>by
  have:k<a.heap.size:=by omega
  rw[Array.getElem?_eq_getElem this];exact h.block k _ (Array.getElem?_eq_getElem this) (.inl (by omega))⟩
def atI (first:Nat)(ms:List Int)(j:Nat):Int:=if (j:Int)∈ms then (first:Int)+posR ms j else -1
def atL (first n:Nat)(ms:List Int):List Value:=(List.range n).map (fun j=>.int .i64 (atI first ms j))
theorem atI_meet{first:Nat}{ms:List Int}{r:Int}(j:Nat)(hr:r∉ms):atI first (ms++[r]) j=if (j:Int)=r then (first:Int)+ms.length else atI first ms j:=by
 unfold atI;by_cases e:(j:Int)=r
 ·subst e
  have:posR (ms++[(j:Int)]) j=ms.length:=by
   unfold posR;rw[List.idxOf_append,if_neg hr];simp
  simp[this]
 ·by_cases hm:(j:Int)∈ms
  ·have:posR (ms++[r]) j=posR ms j:=by
    unfold posR;rw[List.idxOf_append,if_pos hm]
   simp[hm,e,this]
  ·simp[hm,e]
structure MkAt (x:Ex)(fa ra va na:Option Addr)(fc rc vc nc:Nat)(vals:List Vl)(nums:List Int)(first:Nat)(w:World)(K:Nat)(av ov:Value)(ms:List Int):Prop where
 blk:w.heap[K]?=some (.cells #[.int .i64 x.kind,.int .i64 x.spec.f,.int .i64 x.spec.pc,.int .i64 x.spec.seen,.int .i64 x.spec.target,.slice fa x.frames.length fc,.slice ra x.recs.length rc,.slice va vals.length vc,.slice na nums.length nc,.int .i64 (first:Nat),av,ov] 196 (0,0))
 at':w.ownsRow (K+1) 3 1 av x.recs.length (atL first x.recs.length ms)
 ord:w.ownsRow (K+1) 3 1 ov ms.length (ms.map (Value.int .i64))
 apart:∀b,av.ownBlock=some b->ov.ownBlock≠some b
section
variable {x:Ex} {fa ra va na:Option Addr} {fc rc vc nc:Nat} {vals:List Vl} {nums:List Int} {first:Nat} {w w':World} {K:Nat} {av ov:Value} {ms:List Int}
theorem aX{B e size n:Nat}{v:Value}{xs:List Value}(h:w.ownsRow B e size v n xs)(hb:Below w.heap.size w w'):w'.ownsRow B e size v n xs:=by
 refine⟨h.1,?_⟩;rcases h.2 with q | ⟨g,cap,cur,e,hg,hh,r⟩
 ·exact .inl q
 ·exact .inr ⟨g,cap,cur,e,hg,ah hh hb,r⟩
theorem MkAt.mono(h:MkAt x fa ra va na fc rc vc nc vals nums first w K av ov ms)(hb:Below w.heap.size w w'):MkAt x fa ra va na fc rc vc nc vals nums first w' K av ov ms:=
 ⟨ah h.blk hb,aX h.at' hb,aX h.ord hb,h.apart⟩
theorem MkAt.set{g i t:Nat}{c:Array Value}(h:MkAt x fa ra va na fc rc vc nc vals nums first w K av ov ms)(hg:w.heap[g]?=some (.cells c t (0,0)))(ht:gz (.cells c t (0,0)))(v:Value):MkAt x fa ra va na fc rc vc nc vals nums first (w.setCell ⟨g,i,none⟩ v) K av ov ms:=by
 have n1:K≠g:=fun e=>by
  have:=h.blk;rw[e,hg] at this;cases this;exact ht.1 rfl
 have own:∀{v':Value} {n:Nat} {xs:List Value},w.ownsRow (K+1) 3 1 v' n xs->(w.setCell ⟨g,i,none⟩ v).ownsRow (K+1) 3 1 v' n xs:=fun hr=>by
  refine⟨hr.1,?_⟩;rcases hr.2 with q | ⟨b,cap,cur,e,hb,hh,r⟩
  ·exact .inl q
  ·refine .inr ⟨b,cap,cur,e,hb,?_,r⟩;rw[Below.heap_setCell _ _ _ _ (show b≠g from fun e2=>by rw[e2,hg] at hh;cases hh;exact ht.2 rfl)]
   exact hh
 exact⟨by rw[Below.heap_setCell _ _ _ _ n1];exact h.blk,own h.at',own h.ord,h.apart⟩
theorem MkAt.grew{B e size n:Nat}{q:Value}{xs:List Value}(h:MkAt x fa ra va na fc rc vc nc vals nums first w K av ov ms)(hown:w.ownsRow B e size q n xs)(he:e≠196/\e≠3)(hg:w.grownBy w' q.ownBlock):MkAt x fa ra va na fc rc vc nc vals nums first w' K av ov ms:=by
 have keep:∀(b:Nat) (c:Array Value) (t:TypeId),t=196\/t=3->w.heap[b]?=some (.cells c t (0,0))->w'.heap[b]?=some (.cells c t (0,0)):=fun b c t ht hb=>by
  rw[hg.block b (ay hb) ?_]
  ·exact hb
  ·intro e1;rcases hown.2 with ⟨rfl,-⟩ | ⟨z,cap,cur,rfl,-,hh,-⟩
   ·simp[Value.ownBlock] at e1
   ·simp[Value.ownBlock] at e1
    subst e1;rw[hh] at hb
    cases hb;rcases ht with ht | ht
    ·exact he.1 ht
    ·exact he.2 ht
 have own:∀{v':Value} {n:Nat} {xs:List Value},w.ownsRow (K+1) 3 1 v' n xs->w'.ownsRow (K+1) 3 1 v' n xs:=fun hr=>by
  refine⟨hr.1,?_⟩;rcases hr.2 with q | ⟨b,cap,cur,e,hb,hh,r⟩
  ·exact .inl q
  ·exact .inr ⟨b,cap,cur,e,hb,keep _ _ _ (.inr rfl) hh,r⟩
 exact⟨keep _ _ _ (.inl rfl) h.blk,own h.at',own h.ord,h.apart⟩
theorem MkAt.cell(h:MkAt x fa ra va na fc rc vc nc vals nums first w K av ov ms){r:Nat}(hr:r<x.recs.length):∃ab cap,av=.slice (some ⟨ab,0,none⟩) x.recs.length cap/\K+1<=ab/\w.cell? ⟨ab,r,none⟩=some (.int .i64 (atI first ms r))/\∃cur,w.heap[ab]?=some (.cells cur 3 (0,0)):=by
 rcases h.at'.2 with ⟨-,e⟩ | ⟨ab,cap,cur,e,hb,hh,-,-,hcs,htk⟩
 ·omega
 ·refine⟨ab,cap,e,hb,?_,cur,hh⟩;rw[ae hh,<-Array.getElem?_toList];have e2:=congrArg (fun l=>l[r]?) htk;simp only[List.getElem?_take,Nat.mul_one] at e2
  rw[if_pos hr] at e2;rw[e2];unfold atL;rw[List.getElem?_map,List.getElem?_range hr];rfl
theorem MkAt.put(h:MkAt x fa ra va na fc rc vc nc vals nums first w K av ov ms){r ab cap:Nat}(hr:r<x.recs.length)(hn:(r:Int)∉ms)(hav:av=.slice (some ⟨ab,0,none⟩) x.recs.length cap) :
  (w.setCell ⟨ab,r,none⟩ (.int .i64 ((first:Int)+ms.length))).heap[K]?=some (.cells #[.int .i64 x.kind,.int .i64 x.spec.f,.int .i64 x.spec.pc,.int .i64 x.spec.seen,.int .i64 x.spec.target,.slice fa x.frames.length fc,.slice ra x.recs.length rc,.slice va vals.length vc,.slice na nums.length nc,.int .i64 (first:Nat),av,ov] 196 (0,0))/\(w.setCell ⟨ab,r,none⟩ (.int .i64 ((first:Int)+ms.length))).ownsRow (K+1) 3 1 av x.recs.length (atL first x.recs.length (ms++[(r:Int)]))/\(w.setCell ⟨ab,r,none⟩ (.int .i64 ((first:Int)+ms.length))).ownsRow (K+1) 3 1 ov ms.length (ms.map (Value.int .i64)):=by
 rcases h.at'.2 with ⟨-,e⟩ | ⟨b,cp,cur,e,hb,hh,h1,h2,hcs,htk⟩
 ·omega
 ·rw[hav] at e
  cases e;have hl:=h.at'.1;refine⟨?_,⟨by simp[atL],.inr ⟨ab,cap,cur.setIfInBounds r (.int .i64 ((first:Int)+ms.length)),hav,hb,ak hh _,h1,h2,by simpa using hcs,?_⟩⟩,⟨h.ord.1,?_⟩⟩
  ·rw[Below.heap_setCell _ _ _ _ (show K≠ab by omega)]
   exact h.blk
  ·refine List.ext_getElem? fun j=>?_
   have e2:=congrArg (fun l=>l[j]?) htk;simp only[List.getElem?_take,Nat.mul_one] at e2
   rw[List.getElem?_take,Nat.mul_one];by_cases hj:j<x.recs.length
   ·rw[if_pos hj] at e2 ⊢;rw[Array.getElem?_toList] at e2 ⊢;unfold atL at e2 ⊢;rw[List.getElem?_map,List.getElem?_range hj] at e2 ⊢;simp only[Option.map_some] at e2 ⊢
    rw[atI_meet j hn];by_cases ej:j=r
    ·subst ej;rw[if_pos rfl,Array.getElem?_setIfInBounds,if_pos rfl,if_pos (by omega)]
    ·rw[if_neg (by omega),Array.getElem?_setIfInBounds,if_neg (fun q=>ej q.symm)];exact e2
   ·rw[if_neg hj];unfold atL;rw[List.getElem?_eq_none (by simp;omega)]
  ·rcases h.ord.2 with q | ⟨b2,cp2,cur2,e2,hb2,hh2,r2⟩
   ·exact .inl q
   ·refine .inr ⟨b2,cp2,cur2,e2,hb2,?_,r2⟩;rw[Below.heap_setCell _ _ _ _ (show b2≠ab from fun q=>h.apart ab (by rw[hav];rfl) (by rw[e2,q];rfl))]
    exact hh2
end
end Go.Proofs.YtbjmgmmekmfjhaaGreatDoor
