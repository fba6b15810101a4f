/- RV3 -/
import Derived.Test.YtbjmgmmekmfjhaaGreatDoorRV1
import Derived.Deep.Slices
import Derived.Deep.SlicePairs
import Derived.Deep.Strs
import Derived.OpenShut
import Derived.Lib.SmallJoins
import Derived.Deep.RegionHeld3
import Derived.Deep.AppendLies
set_option maxHeartbeats 32000000
set_option maxRecDepth 100000
namespace Go.Proofs.YtbjmgmmekmfjhaaGreatDoor
open Go.RowKit
theorem eqStringS_any(a a2:Option Addr)(ss:List ByteArray)(cap cap2:Nat)(w:World)(hn:ss.length<=1048576)(hm:bc w 0 a ss)(hm2:bc w 0 a2 ss) :
  Calls Tryz.prog 59 #[.slice a ss.length cap,.slice a2 ss.length cap2] w fun e w'=>e=.returned (.bool true)/\Below w.heap.size w w':=by
 go_enter Tryz.func59,Tryz.ntmps59
 go_wp2;go_loopw [5] (fun i wr=>∃(k:Nat),k<=ss.length/\i=.int .i64 k/\Below w.heap.size w wr) (fun i _=>ss.length-(intOf i).toNat)
 case atStart=>exact⟨0,by omega,rfl,Below.refl _ _⟩
 case round=>
  obtain⟨k,hk,rfl,hb⟩:=hrel;by_cases hlt:k<ss.length
  ·obtain⟨b,off,rfl,-,c1⟩:=hm k hlt;obtain⟨b2,off2,rfl,-,c2⟩:=hm2 k hlt;have c1':=cell_later hb c1;have c2':=cell_later hb c2;clear c1 c2;go_wp2;go_quiet (fail)
   go_wp2;go_roundw
   case rel=>exact⟨k+1,by omega,by go_num,aF hb _⟩
   case measure=>simp[intOf];omega
  ·go_wp2;go_ret
   exact⟨rfl,hb⟩
theorem eqIns_same(o a:Int)(w:World) :
  Calls Tryz.prog 239 #[.agg #[.int .i64 o,.int .i64 a],.agg #[.int .i64 o,.int .i64 a]] w fun e w'=>e=.returned (.bool true)/\Below w.heap.size w w':=by
 go_enter Tryz.func239,Tryz.ntmps239
 go_wp2;go_ret
 exact⟨rfl,(b_r.alloc n_l _).alloc (by simp) _⟩
theorem eqInsS_any(a a2:Option Addr)(xs:List (Int×Int))(cap cap2:Nat)(w:World)(hn:xs.length<=1048576)(hm:bn w 0 a xs)(hm2:bn w 0 a2 xs) :
  Calls Tryz.prog 172 #[.slice a xs.length cap,.slice a2 xs.length cap2] w fun e w'=>e=.returned (.bool true)/\Below w.heap.size w w':=by
 go_enter Tryz.func172,Tryz.ntmps172
 go_wp2;go_loopw [5] (fun i wr=>∃(k:Nat),k<=xs.length/\i=.int .i64 k/\Below w.heap.size w wr) (fun i _=>xs.length-(intOf i).toNat)
 case atStart=>exact⟨0,by omega,rfl,Below.refl _ _⟩
 case round=>
  obtain⟨k,hk,rfl,hb⟩:=hrel;by_cases hlt:k<xs.length
  ·obtain⟨b,off,rfl,-,c1,d1⟩:=hm k hlt;obtain⟨b2,off2,rfl,-,c2,d2⟩:=hm2 k hlt;have c1':=cell_later hb c1;have c2':=cell_later hb c2;have d1':=cell_later hb d1;have d2':=cell_later hb d2;clear c1 c2 d1 d2;go_wp2;go_region_with (go_at_call 239;refine (eqIns_same _ _ _).mono ?_;rintro e w1 ⟨rfl,hb1⟩)
   all_goals
    go_wp2;go_roundw
    case rel=>
     refine⟨k+1,by omega,by go_num,Below.trans ?_ (hb1.mono ?_)⟩
     ·repeat (first | exact hb | apply Below.drew)
     ·exact hb.size
    case measure=>simp[intOf];omega
  ·go_wp2;go_ret
   exact⟨rfl,hb⟩
theorem eqFunc_any(p l:Int)(a a2:Option Addr)(xs:List (Int×Int))(cap cap2:Nat)(w:World)(hn:xs.length<=1048576)(hm:bn w 0 a xs)(hm2:bn w 0 a2 xs) :
  Calls Tryz.prog 110 #[.agg #[.int .i64 p,.int .i64 l,.slice a xs.length cap],.agg #[.int .i64 p,.int .i64 l,.slice a2 xs.length cap2]] w fun e w'=>e=.returned (.bool true)/\Below w.heap.size w w':=by
 go_enter Tryz.func110,Tryz.ntmps110
 go_wp2_with fail
 have hbA:Below w.heap.size w ((w.alloc (.cells #[.int .i64 p,.int .i64 l,.slice a xs.length cap] 160)).alloc (.cells #[.int .i64 p,.int .i64 l,.slice a2 xs.length cap2] 160)):=(b_r.alloc n_l _).alloc (by simp) _;refine (eqInsS_any a a2 xs cap cap2 _ hn (hm.mono hbA) (hm2.mono hbA)).mono ?_;rintro e w1 ⟨rfl,hb⟩;go_wp2;go_ret
 exact⟨rfl,hbA.trans (hb.mono (by simp;omega))⟩
theorem eqFuncS_any(a a2:Option Addr)(fs:List Fn)(cap cap2:Nat)(w:World)(hn:fs.length<=1048576)(hc:∀f∈fs,f.code.length<=1048576)(hm:FnsAt w 0 a fs)(hm2:FnsAt w 0 a2 fs) :
  Calls Tryz.prog 60 #[.slice a fs.length cap,.slice a2 fs.length cap2] w fun e w'=>e=.returned (.bool true)/\Below w.heap.size w w':=by
 go_enter Tryz.func60,Tryz.ntmps60
 go_wp2;go_loopw [5] (fun i wr=>∃(k:Nat),k<=fs.length/\i=.int .i64 k/\Below w.heap.size w wr) (fun i _=>fs.length-(intOf i).toNat)
 case atStart=>exact⟨0,by omega,rfl,Below.refl _ _⟩
 case round=>
  obtain⟨k,hk,rfl,hb⟩:=hrel;by_cases hlt:k<fs.length
  ·obtain⟨b,off,ca,cc,rfl,-,c1,d1,e1,f1⟩:=hm k hlt;obtain⟨b2,off2,ca2,cc2,rfl,-,c2,d2,e2,f2⟩:=hm2 k hlt;have c1':=cell_later hb c1;have c2':=cell_later hb c2;have d1':=cell_later hb d1;have d2':=cell_later hb d2;have e1':=cell_later hb e1;have e2':=cell_later hb e2;have hck:=hc fs[k] (g_m hlt);clear c1 c2 d1 d2 e1 e2;go_wp2;go_region_with (go_at_call 110;refine (eqFunc_any _ _ _ _ _ _ _ _ hck (by exact f1.mono (by repeat (first | exact hb | apply Below.drew))) (by exact f2.mono (by repeat (first | exact hb | apply Below.drew)))).mono ?_;rintro e w1 ⟨rfl,hb1⟩)
   all_goals
    go_wp2;go_roundw
    case rel=>
     refine⟨k+1,by omega,by go_num,Below.trans ?_ (hb1.mono ?_)⟩
     ·repeat (first | exact hb | apply Below.drew)
     ·exact hb.size
    case measure=>simp[intOf];omega
  ·go_wp2;go_ret
   exact⟨rfl,hb⟩
theorem eqModule_any(a1 a2:Option Addr)(b1 b2:Option Addr)(ts:List ByteArray)(fs:List Fn)(c1 c2 d1 d2:Nat)(w:World)(hs:dm ts fs)(hm:bc w 0 a1 ts)(hm2:bc w 0 b1 ts)(hf:FnsAt w 0 a2 fs)(hf2:FnsAt w 0 b2 fs) :
  Calls Tryz.prog 14 #[.agg #[.slice a1 ts.length c1,.slice a2 fs.length c2],.agg #[.slice b1 ts.length d1,.slice b2 fs.length d2]] w fun e w'=>e=.returned (.bool true)/\Below w.heap.size w w':=by
 go_enter Tryz.func14,Tryz.ntmps14
 go_wp2_with fail
 have hbA:Below w.heap.size w ((w.alloc (.cells #[.slice a1 ts.length c1,.slice a2 fs.length c2] 36)).alloc (.cells #[.slice b1 ts.length d1,.slice b2 fs.length d2] 36)):=(b_r.alloc n_l _).alloc (by simp) _;refine (eqStringS_any a1 b1 ts c1 d1 _ hs.texts (hm.mono hbA) (hm2.mono hbA)).mono ?_;rintro e w1 ⟨rfl,hb⟩;have hA:=ah (au (al w #[.slice a1 ts.length c1,.slice a2 fs.length c2] 36) (.cells #[.slice b1 ts.length d1,.slice b2 fs.length d2] 36)) hb;have hB:=ah (al (w.alloc (.cells #[.slice a1 ts.length c1,.slice a2 fs.length c2] 36)) #[.slice b1 ts.length d1,.slice b2 fs.length d2] 36) hb;simp only[World.size_alloc] at hA hB
 have x1:=ae hA;have x2:=ae hB;have hb1:Below w.heap.size w w1:=hbA.trans (hb.mono (by simp;omega));clear hA hB;go_wp2_with fail
 refine (eqFuncS_any a2 b2 fs c2 d2 _ hs.funcs hs.code (hf.mono hb1) (hf2.mono hb1)).mono ?_;rintro e w2 ⟨rfl,hb2⟩;go_wp2;go_ret
 exact⟨rfl,hb1.trans (hb2.mono hb1.size)⟩
end Go.Proofs.YtbjmgmmekmfjhaaGreatDoor
namespace Go.Proofs.YtbjmgmmekmfjhaaGreatDoor
open Go.RowKit Go.Deep Go.ChangeShapes Go.WideShapes
section
variable {H:Type} {enc:TypeId×Value->H} {P:Program} {w:World} {base:Nat} {spare:Nat->Bool} {held:Bool}
theorem ch{a:Addr}{v:Value}(h:w.cell? (a.add 0)=some v):∃b off,a=⟨b,off,none⟩:=by
 obtain⟨b,off,spot⟩:=a;have hspot:spot=none:=by simpa[Addr.add] using World.cell?_spot h
 subst hspot;exact⟨b,off,rfl⟩
theorem read_strs{t e:TypeId}{fuel:Nat}{v:Value}{y:DataW H×List MemPlace}(ht:P.underlying t=some (.slice e))(he:P.underlying e=some .string)(hc:P.cellsOf e=1)
  (h:DataW.trod enc P w base spare held fuel t [v]=some y) :
  ∃a cap ss,v=.slice a ss.length cap/\ss.length<=maxLen/\(∀s∈ss,s.size<=maxLen)/\bc w 0 a ss:=by
 rcases open_strs ht he hc h with ⟨hcs,-⟩ | ⟨a,len,cap,m,Sx,hcs,-,hl,hm,hmm,-,hx⟩
 ·simp at hcs
  exact⟨none,0,[],by simpa using hcs,by simp,by simp,fun i hi=>by simp at hi⟩
 ·simp at hcs
  have hlm:len<=m:=by rw[hmm];split<;>omega
  refine⟨some a,cap,(List.range len).map Sx,by simpa using hcs,by simp;omega,?_,?_⟩
  ·intro s hs;obtain⟨i,hi,rfl⟩:=List.mem_map.1 hs;exact (hx i (by have:=List.mem_range.1 hi;omega)).2
  ·intro i hi;have hi':i<len:=by simpa using hi
   obtain⟨b,off,rfl⟩:=ch (hx 0 (by omega)).1;have hcell:=(hx i (by omega)).1;rw[Go.WideShapes.add_plain] at hcell;exact⟨b,off,rfl,Nat.zero_le _,by simpa using hcell⟩
theorem read_code{t e:TypeId}{f0 f1:Field}{fuel:Nat}{v:Value}{y:DataW H×List MemPlace}(ht:P.underlying t=some (.slice e))(he:P.underlying e=some (.struct #[f0,f1]))
  (ce:P.cellsOf e=2) (o0:f0.offset=0) (o1:f1.offset=1) (c0:P.cellsOf f0.type=1) (c1:P.cellsOf f1.type=1) (k0:P.underlying f0.type=some (.int .i64)) (k1:P.underlying f1.type=some (.int .i64))
  (h:DataW.trod enc P w base spare held fuel t [v]=some y) :
  ∃a cap xs,v=.slice a xs.length cap/\xs.length<=maxLen/\bn w 0 a xs:=by
 rcases open_slice_pairs ht he ce o0 o1 c0 c1 h with ⟨hcs,-⟩ | ⟨a,len,cap,m,n,V0,V1,D0,D1,P0,P1,hcs,-,hl,hm,hmm,-,hx⟩
 ·simp at hcs
  exact⟨none,0,[],by simpa using hcs,by simp,fun i hi=>by simp at hi⟩
 ·simp at hcs
  have hlm:len<=m:=by rw[hmm];split<;>omega
  obtain⟨q,hq⟩:=choose_lt (α:=Int×Int) (n:=m) (p:=fun i z=>V0 i=.int .i64 z.1/\V1 i=.int .i64 z.2) (fun i hi=>by
   obtain⟨-,-,g0,g1⟩:=hx i hi;obtain⟨z0,e0,-,-⟩:=DataW.trod_int k0 g0;obtain⟨z1,e1,-,-⟩:=DataW.trod_int k1 g1;exact⟨(z0,z1),by simpa using e0,by simpa using e1⟩)
  refine⟨some a,cap,(List.range len).map q,by simpa using hcs,by simp;omega,?_⟩;intro i hi;have hi':i<len:=by simpa using hi
  obtain⟨h0,h1,-,-⟩:=hx i (by omega);rw[(hq i (by omega)).1] at h0;rw[(hq i (by omega)).2] at h1;obtain⟨b,off,rfl⟩:=ch (by simpa using (hx 0 (by omega)).1);rw[Go.WideShapes.add_plain] at h0;rw[Go.WideShapes.add_plain,<-Nat.add_assoc] at h1;exact⟨b,off,rfl,Nat.zero_le _,by simpa using h0,by simpa using h1⟩
theorem read_fns{t e tc ec:TypeId}{f0 f1 f2 g0 g1:Field}{fuel:Nat}{v:Value}{y:DataW H×List MemPlace}(ht:P.underlying t=some (.slice e))(he:P.underlying e=some (.struct #[f0,f1,f2]))
  (ce:P.cellsOf e=3) (o0:f0.offset=0) (o1:f1.offset=1) (o2:f2.offset=2) (c0:P.cellsOf f0.type=1) (c1:P.cellsOf f1.type=1) (c2:P.cellsOf f2.type=1)
  (k0:P.underlying f0.type=some (.int .i64)) (k1:P.underlying f1.type=some (.int .i64)) (k2:f2.type=tc)
  (htc:P.underlying tc=some (.slice ec)) (hec:P.underlying ec=some (.struct #[g0,g1]))
  (cec:P.cellsOf ec=2) (p0:g0.offset=0) (p1:g1.offset=1) (d0:P.cellsOf g0.type=1) (d1:P.cellsOf g1.type=1) (l0:P.underlying g0.type=some (.int .i64)) (l1:P.underlying g1.type=some (.int .i64))
  (h:DataW.trod enc P w base spare held fuel t [v]=some y) :
  ∃a cap fs,v=.slice a fs.length cap/\fs.length<=maxLen/\(∀f∈fs,f.code.length<=maxLen)/\FnsAt w 0 a fs:=by
 rcases open_slice ht h with ⟨hcs,-⟩ | ⟨a,len,cap,m,n,D,Pl,hcs,-,hl,hm,hmm,-,hx⟩
 ·simp at hcs
  exact⟨none,0,[],by simpa using hcs,by simp,by simp,fun i hi=>by simp at hi⟩
 ·simp at hcs
  have hlm:len<=m:=by rw[hmm];split<;>omega
  have inh:Inhabited Fn:=⟨⟨0,0,[]⟩⟩;have hplain:∀i,i<m->∃b off,a=⟨b,off,none⟩:=fun i hi=>by
   obtain⟨cs',h1,-⟩:=hx 0 (by omega);rw[ce] at h1;obtain⟨_,hlen,hcell⟩:=World.cells?_some h1;have e0:=hcell 0 (by omega);rw[add_add] at e0;match cs',hlen with
   | [v0,v1,v2],_=>exact ch (by simpa using e0)
  obtain⟨q,hq⟩:=choose_lt (α:=Fn) (n:=m) (p:=fun i z=>z.code.length<=maxLen/\∃b off ca cc,a=⟨b,off,none⟩/\w.cell? ⟨b,off+i*3,none⟩=some (.int .i64 z.params) /\
    w.cell? ⟨b,off+i*3+1,none⟩=some (.int .i64 z.locals)/\w.cell? ⟨b,off+i*3+2,none⟩=some (.slice ca z.code.length cc)/\bn w 0 ca z.code) (fun i hi=>by
   obtain⟨cs',h1,h2⟩:=hx i hi;rw[ce] at h1;obtain⟨_,hlen,hcell⟩:=World.cells?_some h1;obtain⟨y0,y1,y2,n',-,-,t0,t1,t2⟩:=trod_struct3 he h2;match cs',hlen with
   | [v0,v1,v2],_=>
    simp[o0,o1,o2,c0,c1,c2] at t0 t1 t2
    have e0:=hcell 0 (by omega);have e1:=hcell 1 (by omega);have e2:=hcell 2 (by omega);rw[add_add] at e0 e1 e2;simp at e0 e1 e2
    obtain⟨z0,x0,-,-⟩:=DataW.trod_int k0 t0;obtain⟨z1,x1,-,-⟩:=DataW.trod_int k1 t1;rw[k2] at t2;obtain⟨ca,cc,xs,x2,hxs,hcode⟩:=read_code htc hec cec p0 p1 d0 d1 l0 l1 t2;simp at x0 x1
    rw[x0] at e0;rw[x1] at e1;rw[x2] at e2;obtain⟨b,off,rfl⟩:=hplain i hi;rw[Go.WideShapes.add_plain] at e0;rw[Go.WideShapes.add_plain,<-Nat.add_assoc] at e1 e2;exact⟨⟨z0,z1,xs⟩,hxs,b,off,ca,cc,rfl,e0,e1,e2,hcode⟩)
  refine⟨some a,cap,(List.range len).map q,by simpa using hcs,by simp;omega,?_,?_⟩
  ·intro f hf;obtain⟨i,hi,rfl⟩:=List.mem_map.1 hf;exact (hq i (by have:=List.mem_range.1 hi;omega)).1
  ·intro i hi;have hi':i<len:=by simpa using hi
   obtain⟨-,b,off,ca,cc,rfl,r0,r1,r2,r3⟩:=hq i (by omega);exact⟨b,off,ca,cc,rfl,Nat.zero_le _,by simpa using r0,by simpa using r1,by simpa using r2,by simpa using r3⟩
end
end Go.Proofs.YtbjmgmmekmfjhaaGreatDoor
namespace Go.Proofs.YtbjmgmmekmfjhaaGreatDoor
open Go.RowKit
structure Si where
 f:Int
 pc:Int
 seen:Int
 target:Int
def Si.cells (s:Si):Array Value:=#[.int .i64 s.f,.int .i64 s.pc,.int .i64 s.seen,.int .i64 s.target]
def fg (w:World)(lo:Nat)(a:Option Addr)(ss:List Si):Prop:=
 ∀i (h:i<ss.length),∃b off,a=some ⟨b,off,none⟩/\lo<=b/\w.cell? ⟨b,off+i*4,none⟩=some (.int .i64 ss[i].f)/\w.cell? ⟨b,off+i*4+1,none⟩=some (.int .i64 ss[i].pc)/\w.cell? ⟨b,off+i*4+2,none⟩=some (.int .i64 ss[i].seen)/\w.cell? ⟨b,off+i*4+3,none⟩=some (.int .i64 ss[i].target)
theorem fg.mono{w w':World}{lo:Nat}{a:Option Addr}{ss:List Si}(h:fg w lo a ss)(hb:Below w.heap.size w w'):fg w' lo a ss:=by
 intro i hi;obtain⟨b,off,h1,h2,h3,h4,h5,h6⟩:=h i hi;exact⟨b,off,h1,h2,cell_later hb h3,cell_later hb h4,cell_later hb h5,cell_later hb h6⟩
open Go.Deep Go.ChangeShapes Go.WideShapes Go.Joins
section
variable {H:Type} {enc:TypeId×Value->H} {P:Program} {w:World} {base:Nat} {spare:Nat->Bool} {held:Bool}
end
def cmpI (x y:Int):Int:=if x<y then -1 else if y<x then 1 else 0
theorem fF(x:Int)(w:World):Calls Tryz.prog 119 #[.int .i64 x] w fun e w'=>e=.returned (.bool false)/\w'=w:=by
 go_enter Tryz.func119,Tryz.ntmps119
 go_wp2;go_ret
 exact⟨ax (by simp),rfl⟩
theorem compare_any(x y:Int)(w:World):Calls Tryz.prog 69 #[.int .i64 x,.int .i64 y] w fun e w'=>e=.returned (.int .i64 (cmpI x y))/\w'=w:=by
 unfold cmpI;by_cases h1:x<y
 ·rw[if_pos h1];go_enter Tryz.func69,Tryz.ntmps69
  go_wp2_with (go_at_call 119;refine (fF _ _).mono ?_;rintro e w' ⟨rfl,rfl⟩)
  go_ret
  exact⟨rfl,rfl⟩
 ·rw[if_neg h1];by_cases h2:y<x
  ·rw[if_pos h2];go_enter Tryz.func69,Tryz.ntmps69
   go_wp2_with (go_at_call 119;refine (fF _ _).mono ?_;rintro e w' ⟨rfl,rfl⟩)
   go_ret
   exact⟨rfl,rfl⟩
  ·rw[if_neg h2];go_enter Tryz.func69,Tryz.ntmps69
   go_wp2_with (go_at_call 119;refine (fF _ _).mono ?_;rintro e w' ⟨rfl,rfl⟩)
   go_ret
   exact⟨rfl,rfl⟩
theorem numberOp_any(op:Int)(w:World):Calls Tryz.prog 297 #[.int .i64 op] w fun e w'=>e=.returned (.bool (decide (11<=op/\op<=14)))/\w'=w:=by
 by_cases h1:op=11
 ·subst h1;go_enter Tryz.func297,Tryz.ntmps297;go_wp2;go_ret;exact⟨rfl,rfl⟩
 by_cases h2:op=12
 ·subst h2;go_enter Tryz.func297,Tryz.ntmps297;go_wp2;go_ret;exact⟨rfl,rfl⟩
 by_cases h3:op=13
 ·subst h3;go_enter Tryz.func297,Tryz.ntmps297;go_wp2;go_ret;exact⟨rfl,rfl⟩
 by_cases h4:op=14
 ·subst h4;go_enter Tryz.func297,Tryz.ntmps297;go_wp2;go_ret;exact⟨rfl,rfl⟩
 go_enter Tryz.func297,Tryz.ntmps297
 go_wp2;go_ret
 exact⟨ax (by symm;simp;omega),rfl⟩
theorem is_any(op:Int)(w:World):Calls Tryz.prog 259 #[.int .i64 op] w fun e w'=>e=.returned (.bool (decide (11<=op/\op<=14\/op=23)))/\w'=w:=by
 by_cases h1:op=11
 ·subst h1;go_enter Tryz.func259,Tryz.ntmps259;go_wp2;go_ret;exact⟨rfl,rfl⟩
 by_cases h2:op=12
 ·subst h2;go_enter Tryz.func259,Tryz.ntmps259;go_wp2;go_ret;exact⟨rfl,rfl⟩
 by_cases h3:op=13
 ·subst h3;go_enter Tryz.func259,Tryz.ntmps259;go_wp2;go_ret;exact⟨rfl,rfl⟩
 by_cases h4:op=14
 ·subst h4;go_enter Tryz.func259,Tryz.ntmps259;go_wp2;go_ret;exact⟨rfl,rfl⟩
 by_cases h5:op=23
 ·subst h5;go_enter Tryz.func259,Tryz.ntmps259;go_wp2;go_ret;exact⟨rfl,rfl⟩
 go_enter Tryz.func259,Tryz.ntmps259
 go_wp2;go_ret
 exact⟨ax (by symm;simp;omega),rfl⟩
def cy (a b:Si):Prop:=a.f<b.f\/a.f=b.f/\a.pc<b.pc
instance (a b:Si):Decidable (cy a b):=by unfold cy;infer_instance
def orI (x y:Int):Int:=if x=0 then y else x
theorem or_any(x y:Int)(g cap:Nat)(w:World)(h0:w.cell? ⟨g,0,none⟩=some (.int .i64 x))(h1:w.cell? ⟨g,1,none⟩=some (.int .i64 y)) :
  Calls Tryz.prog 107 #[.slice (some ⟨g,0,none⟩) 2 cap] w fun e w'=>e=.returned (.int .i64 (orI x y))/\Below w.heap.size w w':=by
 unfold orI;go_enter Tryz.func107,Tryz.ntmps107
 go_wp2;go_loopw [8] (fun i wr=>∃(k:Nat),k<=2/\i=.int .i64 k/\Hid (0<k->x=0)/\Hid (1<k->y=0)/\Below w.heap.size w wr) (fun i _=>2-(intOf i).toNat)
 case atStart=>exact⟨0,by omega,rfl,fun h=>absurd h (by omega),fun h=>absurd h (by omega),Below.refl _ _⟩
 case round=>
  obtain⟨k,hk,rfl,hx,hy,hb⟩:=hrel;have c0:=cell_later hb h0;have c1:=cell_later hb h1;clear h0 h1;obtain rfl | rfl | rfl:k=0\/k=1\/k=2:=by omega
  ·by_cases h:x=0
   ·subst h;go_wp2;go_roundw
    case rel=>exact⟨1,by omega,rfl,(by show _->_;simp),fun h=>absurd h (by omega),hb⟩
    case measure=>simp[intOf]
   ·go_wp2;go_ret
    exact⟨rfl,hb⟩
  ·obtain rfl:=hx.out (by omega);by_cases h:y=0
   ·subst h;go_wp2;go_roundw
    case rel=>exact⟨2,by omega,rfl,(by show _->_;simp),(by show _->_;simp),hb⟩
    case measure=>simp[intOf]
   ·go_wp2;go_ret
    exact⟨rfl,hb⟩
  ·obtain rfl:=hx.out (by omega);obtain rfl:=hy.out (by omega);go_wp2;go_ret
   exact⟨rfl,hb⟩
theorem comparePlaces_any(af ap bf bp:Int)(w:World) :
  Calls Tryz.prog 108 #[.agg #[.int .i64 af,.int .i64 ap],.agg #[.int .i64 bf,.int .i64 bp]] w fun e w'=>e=.returned (.int .i64 (orI (cmpI af bf) (cmpI ap bp)))/\Below w.heap.size w w':=by
 obtain⟨wA,hwA⟩:∃wA,wA=(w.alloc (.cells #[.int .i64 af,.int .i64 ap] 182)).alloc (.cells #[.int .i64 bf,.int .i64 bp] 182):=⟨_,rfl⟩;have hbA:Below w.heap.size w wA:=by rw[hwA];exact (b_r.alloc n_l _).alloc (by simp) _
 have hX:wA.heap[w.heap.size]?=some (.cells #[.int .i64 af,.int .i64 ap] 182 (0,0)):=by rw[hwA];exact au (al _ _ _) _
 have hY:wA.heap[w.heap.size+1]?=some (.cells #[.int .i64 bf,.int .i64 bp] 182 (0,0)):=by rw[hwA];simpa using al (w.alloc (.cells #[.int .i64 af,.int .i64 ap] 182)) #[.int .i64 bf,.int .i64 bp] 182
 have hS:∀w',Below wA.heap.size wA w'->w'.cell? ⟨w.heap.size,0,none⟩=some (.int .i64 af)/\w'.cell? ⟨w.heap.size,1,none⟩=some (.int .i64 ap)/\w'.cell? ⟨w.heap.size+1,0,none⟩=some (.int .i64 bf)/\w'.cell? ⟨w.heap.size+1,1,none⟩=some (.int .i64 bp):=fun w' hb=>
  ⟨ckb hX hb rfl,ckb hX hb rfl,ckb hY hb rfl,ckb hY hb rfl⟩
 have HS:Hid (∀w',Below wA.heap.size wA w'->w'.cell? ⟨w.heap.size,0,none⟩=some (.int .i64 af)/\w'.cell? ⟨w.heap.size,1,none⟩=some (.int .i64 ap)/\w'.cell? ⟨w.heap.size+1,0,none⟩=some (.int .i64 bf)/\w'.cell? ⟨w.heap.size+1,1,none⟩=some (.int .i64 bp)):=hS;have q:Below wA.heap.size wA wA.drew:=b_r.drew;have HB:Hid (Below w.heap.size w wA):=hbA;clear hS hX hY hbA;go_enter Tryz.func108,Tryz.ntmps108
 go_wp2;rw[<-hwA];clear hwA
 go_region_held3 (fun w'=>w'.cell? ⟨w.heap.size,0,none⟩=some (.int .i64 af)/\w'.cell? ⟨w.heap.size,1,none⟩=some (.int .i64 ap)/\w'.cell? ⟨w.heap.size+1,0,none⟩=some (.int .i64 bf)/\w'.cell? ⟨w.heap.size+1,1,none⟩=some (.int .i64 bp))
  ((refine HS.out _ ?_;first | exact q | exact Below.refl _ _ | exact (b_r.alloc n_l _).drew))
  (first
   | (go_at_call 69;refine (compare_any _ _ _).mono ?_;rintro e wb ⟨rfl,rfl⟩)
   | (go_at_call 107;refine (or_any (cmpI af bf) (cmpI ap bp) _ _ _ (by exact (dJ wA #[.int .i64 (cmpI af bf),.int .i64 (cmpI ap bp)] 3 0).trans rfl) (by exact (dJ wA #[.int .i64 (cmpI af bf),.int .i64 (cmpI ap bp)] 3 1).trans rfl)).mono ?_;rintro e w3 ⟨rfl,kd⟩;have q:=(((Below.refl wA.heap.size wA).alloc n_l (.cells #[.int .i64 (cmpI af bf),.int .i64 (cmpI ap bp)] 3)).drew).trans (kd.mono (by simp))))
 go_wp2;go_ret
 exact⟨rfl,HB.out.trans (q.mono HB.out.size)⟩
theorem cmp_less(a b:Si):0<=orI (cmpI a.f b.f) (cmpI a.pc b.pc)↔¬cy a b:=by
 unfold orI cmpI cy;repeat' split
 all_goals omega
end Go.Proofs.YtbjmgmmekmfjhaaGreatDoor
namespace Go.Proofs.YtbjmgmmekmfjhaaGreatDoor
theorem ay{w:World}{g:Nat}{o:Obj}(h:w.heap[g]?=some o):g<w.heap.size:=by
 rcases Nat.lt_or_ge g w.heap.size with h' | h'
 ·exact h'
 ·rw[Array.getElem?_eq_none h'] at h;cases h
theorem fnB_no{nt nf:Int}{f:Fn}(h:¬(0<=f.params/\f.params<=6/\f.params<=f.locals/\f.locals<=12/\1<=f.code.length/\f.code.length<=120)):fnB nt nf f=false:=by
 rw[Bool.eq_false_iff];intro hc;apply h
 unfold fnB at hc;simp only[Bool.and_eq_true,decide_eq_true_eq] at hc
 omega
theorem fnB_all{nt nf:Int}{f:Fn}(h:0<=f.params/\f.params<=6/\f.params<=f.locals/\f.locals<=12/\1<=f.code.length/\f.code.length<=120):fnB nt nf f=f.code.all fun x=>insB nt nf f.locals f.code.length x.1 x.2:=by
 obtain⟨h1,h2,h3,h4,h5,h6⟩:=h;unfold fnB;rw[decide_eq_true h1,decide_eq_true h2,decide_eq_true h3,decide_eq_true h4,decide_eq_true h5,decide_eq_true h6];rfl
theorem modB_no{ts:List ByteArray}{fs:List Fn}(h:¬(1<=fs.length/\fs.length<=12/\ts.length<=20)):modB ts fs=false:=by
 rw[Bool.eq_false_iff];intro hc;apply h
 unfold modB at hc;simp only[Bool.and_eq_true,decide_eq_true_eq] at hc
 omega
theorem modB_all{ts:List ByteArray}{fs:List Fn}(h:1<=fs.length/\fs.length<=12/\ts.length<=20):modB ts fs=(ts.all ck && fs.all fun f=>fnB ts.length fs.length f):=by
 obtain⟨h1,h2,h3⟩:=h;unfold modB;rw[decide_eq_true h1,decide_eq_true h2,decide_eq_true h3];rfl
def aM (fs:List Fn)(op a:Int):Int×Int:=
 if op=1\/op=2\/op=3\/op=4\/op=5\/op=6\/op=20 then (0,1)
 else if op=7\/op=9\/op=18\/op=19\/op=25\/op=26 then (1,0)
 else if op=8 then (1,2)
 else if op=10 then (2,2)
 else if op=11\/op=12\/op=13\/op=14\/op=15 then (2,1)
 else if op=16\/op=21 then (1,1)
 else if op=22 then (2,0)
 else if op=23 then (if 0<=a/\a<=6 then (a+1,1) else (0,0))
 else if op=24 then (if h:0<=a/\a<fs.length then ((fs[a.toNat]'(by omega)).params,1) else (0,0))
 else (0,0)
theorem ev{fs:List Fn}{op a:Int}(h:op<1\/26<op):aM fs op a=(0,0):=by
 unfold aM;repeat' split
 all_goals first | rfl | omega
theorem dO{fs:List Fn}(h:∀f∈fs,0<=f.params/\f.params<=6)(op a:Int):0<=(aM fs op a).1/\(aM fs op a).1<=7/\0<=(aM fs op a).2/\(aM fs op a).2<=2:=by
 unfold aM;repeat' split
 all_goals first | (refine⟨?_,?_,?_,?_⟩<;>simp<;>omega) | skip
 rename_i hx
 have:=h (fs[a.toNat]'(by omega)) (g_m _);refine⟨?_,?_,?_,?_⟩<;>simp<;>omega
def nextB (op a:Int)(pc:Nat):List Int:=if op=25 then [] else if op=17 then [a] else if op=18\/op=19 then [(pc:Int)+1,a] else [(pc:Int)+1]
def layB (left:Int)(h:List Int)(nx:Int):List Int:=if nx<h.length/\h.getD nx.toNat (-1)<0 then h.set nx.toNat left else h
def ey (fs:List Fn)(x:Int×Int)(pc:Nat)(h:List Int):List Int:=
 if h.getD pc (-1)<(aM fs x.1 x.2).1\/16<h.getD pc (-1)-(aM fs x.1 x.2).1+(aM fs x.1 x.2).2 then h
 else (nextB x.1 x.2 pc).foldl (layB (h.getD pc (-1)-(aM fs x.1 x.2).1+(aM fs x.1 x.2).2)) h
def bI (fs:List Fn)(code:List (Int×Int)):Nat->List Int->List Int
 | 0,h=>h
 | k+1,h=>ey fs (code.getD k (0,0)) k (bI fs code k h)
def dq (fs:List Fn)(code:List (Int×Int))(h:List Int):List Int:=bI fs code code.length h
def gF (n:Nat):List Int:=(List.replicate n (-1)).set 0 0
def bM (fs:List Fn)(code:List (Int×Int)):Nat->List Int
 | 0=>gF code.length
 | k+1=>dq fs code (bM fs code k)
def Done (fs:List Fn)(code:List (Int×Int))(d:List Int):Prop:=(∃k,d=bM fs code k)/\dq fs code d=d
theorem iter_more{fs:List Fn}{code:List (Int×Int)}{k:Nat}(h:dq fs code (bM fs code k)=bM fs code k)(j:Nat):bM fs code (k+j)=bM fs code k:=by
 induction j with
 | zero=>rfl
 | succ j ih=>show dq fs code (bM fs code (k+j))=_;rw[ih,h]
theorem Done.one{fs:List Fn}{code:List (Int×Int)}{d e:List Int}(hd:Done fs code d)(he:Done fs code e):d=e:=by
 obtain⟨⟨k,rfl⟩,h1⟩:=hd;obtain⟨⟨j,rfl⟩,h2⟩:=he;rcases Nat.le_total k j with h | h
 ·have:=iter_more h1 (j-k);rw[show k+(j-k)=j by omega] at this
  exact this.symm
 ·have:=iter_more h2 (k-j);rw[show j+(k-j)=k by omega] at this
  exact this
def negs (h:List Int):Nat:=h.countP fun x=>decide (x<0)
structure Hts (n:Nat)(h:List Int):Prop where
 len:h.length=n
 low:∀i (hi:i<h.length),-1<=h[i]
 high:∀i (hi:i<h.length),h[i]<=16
theorem Hts.get{n:Nat}{h:List Int}(H:Hts n h){i:Nat}(hi:i<n):h.getD i (-1)=h[i]'(by rw[H.len];exact hi):=by
 rw[List.getD_eq_getElem?_getD,List.getElem?_eq_getElem (by rw[H.len];exact hi)];rfl
theorem fV{n:Nat}{h:List Int}{left nx:Int}(H:Hts n h)(h0:0<=left)(h1:left<=16):Hts n (layB left h nx):=by
 unfold layB;split
 ·refine⟨by rw[List.length_set];exact H.len,?_,?_⟩
  ·intro i hi;rw[List.getElem_set];split
   ·omega
   ·exact H.low i (by simpa using hi)
  ·intro i hi;rw[List.getElem_set];split
   ·omega
   ·exact H.high i (by simpa using hi)
 ·exact H
theorem fz{h:List Int}{left nx:Int}(h0:0<=left)(h1:0<=nx):(layB left h nx=h/\¬(nx<h.length/\h.getD nx.toNat (-1)<0))\/(nx<h.length/\h.getD nx.toNat (-1)<0/\layB left h nx=h.set nx.toNat left/\negs (layB left h nx)+1=negs h):=by
 unfold layB;by_cases hc:nx<h.length/\h.getD nx.toNat (-1)<0
 ·right
  rw[if_pos hc];refine⟨hc.1,hc.2,rfl,?_⟩;have hlt:nx.toNat<h.length:=by omega
  have hneg:h[nx.toNat]<0:=by
   have:=hc.2;rwa [List.getD_eq_getElem?_getD,List.getElem?_eq_getElem hlt,Option.getD_some] at this
  unfold negs;rw[List.countP_set hlt];have hpos:0<List.countP (fun x=>decide (x<0)) h:=List.countP_pos_iff.2 ⟨h[nx.toNat],g_m _,by simpa using hneg⟩;rw[if_pos (by simpa using hneg),if_neg (by simp;omega)];omega
 ·left
  rw[if_neg hc];exact⟨rfl,hc⟩
def Less (h h':List Int):Prop:=h'=h\/negs h'<negs h
theorem Less.trans{a b c:List Int}(h1:Less a b)(h2:Less b c):Less a c:=by
 rcases h1 with rfl | h1
 ·exact h2
 ·rcases h2 with rfl | h2
  ·exact Or.inr h1
  ·exact Or.inr (by omega)
theorem layB_Less{h:List Int}{left nx:Int}(h0:0<=left)(h1:0<=nx):Less h (layB left h nx):=by
 rcases fz (h:=h) h0 h1 with h | h
 ·exact Or.inl h.1
 ·exact Or.inr (by omega)
theorem nextB_nonneg{op a:Int}{pc:Nat}(h:op=17\/op=18\/op=19->0<=a):∀nx∈nextB op a pc,0<=nx:=by
 intro nx hnx;unfold nextB at hnx;split at hnx
 ·simp at hnx
 ·split at hnx
  ·simp at hnx;omega
  ·split at hnx
   ·simp at hnx;omega
   ·simp at hnx;omega
theorem fold_lay{n:Nat}{left:Int}(h0:0<=left)(h1:left<=16)(l:List Int)(hl:∀nx∈l,0<=nx):∀h,Hts n h->Hts n (l.foldl (layB left) h)/\Less h (l.foldl (layB left) h):=by
 induction l with
 | nil=>exact fun h H=>⟨H,Or.inl rfl⟩
 | cons x l ih=>
  intro h H;rw[List.foldl_cons];have:=ih (fun nx hnx=>hl nx (List.mem_cons_of_mem _ hnx)) (layB left h x) (fV H h0 h1);exact⟨this.1,(layB_Less h0 (hl x (List.mem_cons_self ..))).trans this.2⟩
structure Fine (fs:List Fn)(code:List (Int×Int)):Prop where
 params:∀f∈fs,0<=f.params/\f.params<=6
 one:1<=code.length
 most:code.length<=120
 jump:∀i (hi:i<code.length),code[i].1=17\/code[i].1=18\/code[i].1=19->0<=code[i].2/\code[i].2<code.length
theorem step_ok{fs:List Fn}{n:Nat}{x:Int×Int}{pc:Nat}{h:List Int}(hp:∀f∈fs,0<=f.params/\f.params<=6)(hj:x.1=17\/x.1=18\/x.1=19->0<=x.2)(H:Hts n h) :
  Hts n (ey fs x pc h)/\Less h (ey fs x pc h):=by
 unfold ey;split
 ·exact⟨H,Or.inl rfl⟩
 ·rename_i hc
  have hu:=dO hp x.1 x.2;exact fold_lay (by omega) (by omega) _ (nextB_nonneg hj) _ H
theorem cA{code:List (Int×Int)}{k:Nat}(hk:k<code.length):code.getD k (0,0)=code[k]:=by
 rw[List.getD_eq_getElem?_getD,List.getElem?_eq_getElem hk];rfl
theorem dX{fs:List Fn}{code:List (Int×Int)}(F:Fine fs code){h:List Int}(H:Hts code.length h)(k:Nat)(hk:k<=code.length):Hts code.length (bI fs code k h)/\Less h (bI fs code k h):=by
 induction k with
 | zero=>exact⟨H,Or.inl rfl⟩
 | succ k ih=>
  have:=ih (by omega);have h2:=step_ok (fs:=fs) (x:=code.getD k (0,0)) (pc:=k) F.params (by rw[cA (by omega)];exact fun hx=>(F.jump k (by omega) hx).1) this.1;exact⟨h2.1,this.2.trans h2.2⟩
theorem init_hts{n:Nat}:Hts n (gF n):=by
 unfold gF;refine⟨by simp,?_,?_⟩
 ·intro i hi;rw[List.getElem_set];split
  ·omega
  ·simp
 ·intro i hi;rw[List.getElem_set];split
  ·omega
  ·simp
theorem init_negs{n:Nat}(h:1<=n):negs (gF n)=n-1:=by
 unfold gF negs;rw[List.countP_set (by simp;omega)];simp[List.countP_replicate]
theorem er{fs:List Fn}{code:List (Int×Int)}(F:Fine fs code)(k:Nat):Hts code.length (bM fs code k):=by
 induction k with
 | zero=>exact init_hts
 | succ k ih=>exact (dX F ih _ n_l).1
theorem step_full{fs:List Fn}{n:Nat}{x:Int×Int}{pc:Nat}{h:List Int}(hp:∀f∈fs,0<=f.params/\f.params<=6)(hj:x.1=17\/x.1=18\/x.1=19->0<=x.2)(H:Hts n h)(h0:negs h=0):ey fs x pc h=h:=by
 rcases (step_ok hp hj H).2 with h | h
 ·exact h
 ·omega
theorem part_full{fs:List Fn}{code:List (Int×Int)}(F:Fine fs code){h:List Int}(H:Hts code.length h)(h0:negs h=0)(k:Nat)(hk:k<=code.length):bI fs code k h=h:=by
 rcases (dX F H k hk).2 with h | h
 ·exact h
 ·omega
theorem part_rest{fs:List Fn}{code:List (Int×Int)}(F:Fine fs code){h:List Int}(H:Hts code.length h){k:Nat}(hk:k<=code.length)(h0:negs (bI fs code k h)=0)(j:Nat)(hj:k+j<=code.length):bI fs code (k+j) h=bI fs code k h:=by
 induction j with
 | zero=>rfl
 | succ j ih=>
  have e:=ih (by omega);show ey fs (code.getD (k+j) (0,0)) (k+j) (bI fs code (k+j) h)=_
  rw[e];exact step_full F.params (by rw[cA (by omega)];exact fun hx=>(F.jump _ (by omega) hx).1) (dX F H k hk).1 h0
theorem done_full{fs:List Fn}{code:List (Int×Int)}(F:Fine fs code){j k:Nat}(hk:k<=code.length)(h0:negs (bI fs code k (bM fs code j))=0):Done fs code (bI fs code k (bM fs code j)):=by
 have H:=er F j;have e:dq fs code (bM fs code j)=bI fs code k (bM fs code j):=by
  have:=part_rest F H hk h0 (code.length-k) (by omega);rw[show k+(code.length-k)=code.length by omega] at this
  exact this
 refine⟨⟨j+1,e.symm⟩,?_⟩;exact part_full F (dX F H k hk).1 h0 _ n_l
theorem done_same{fs:List Fn}{code:List (Int×Int)}(F:Fine fs code){j:Nat}(h0:negs (bM fs code j)<=negs (bI fs code code.length (bM fs code j))):Done fs code (bI fs code code.length (bM fs code j)):=by
 have e:bI fs code code.length (bM fs code j)=bM fs code j:=by
  rcases (dX F (er F j) code.length n_l).2 with h | h
  ·exact h
  ·omega
 refine⟨⟨j+1,rfl⟩,?_⟩;show dq fs code (dq fs code (bM fs code j))=dq fs code (bM fs code j)
 have e2:dq fs code (bM fs code j)=bM fs code j:=e;rw[e2,e2]
theorem Done.hts{fs:List Fn}{code:List (Int×Int)}(F:Fine fs code){d:List Int}(h:Done fs code d):Hts code.length d:=by
 obtain⟨⟨k,rfl⟩,-⟩:=h;exact er F k
def aW (fs:List Fn)(code:List (Int×Int))(d:List Int)(pc:Nat):Int:=
 let x:=code.getD pc (0,0)
 let left:=d.getD pc (-1)-(aM fs x.1 x.2).1+(aM fs x.1 x.2).2
 if d.getD pc (-1)<0 then 0
 else if d.getD pc (-1)<(aM fs x.1 x.2).1\/16<left then 2
 else if (nextB x.1 x.2 pc).any (fun nx=>decide ((code.length:Int)<=nx)) then 3
 else if (nextB x.1 x.2 pc).any (fun nx=>decide (d.getD nx.toNat (-1)≠left)) then 4
 else 0
def gt (fs:List Fn)(code:List (Int×Int))(k:Nat):Prop:=∀d,Done fs code d->∀j,j<k->aW fs code d j=0
def Told (fs:List Fn)(c f at':Int):Prop:=
 (c=0/\f=0/\at'=0/\∀g (hg:g<fs.length),gt fs fs[g].code fs[g].code.length) \/
 (∃(g:Nat) (hg:g<fs.length) (k:Nat) (d:List Int),f=g/\at'=k/\k<fs[g].code.length/\Done fs fs[g].code d/\aW fs fs[g].code d k=c/\c≠0/\gt fs fs[g].code k/\∀g' (hg':g'<fs.length),g'<g->gt fs fs[g'].code fs[g'].code.length)
theorem Told.one{fs:List Fn}{c f a c' f' a':Int}(h:Told fs c f a)(h':Told fs c' f' a'):c=c'/\f=f'/\a=a':=by
 rcases h with ⟨rfl,rfl,rfl,hA⟩ | ⟨g,hg,k,d,rfl,rfl,hk,hd,ht,hc,hB,hA⟩
 ·rcases h' with ⟨rfl,rfl,rfl,-⟩ | ⟨g',hg',k',d',rfl,rfl,hk',hd',ht',hc',-,-⟩
  ·exact⟨rfl,rfl,rfl⟩
  ·exact absurd (ht'.symm.trans (hA g' hg' d' hd' k' hk')) hc'
 ·rcases h' with ⟨rfl,rfl,rfl,hA'⟩ | ⟨g',hg',k',d',rfl,rfl,hk',hd',ht',hc',hB',hA'⟩
  ·exact absurd (ht.symm.trans (hA' g hg d hd k hk)) hc
  ·obtain rfl:g=g':=by
    rcases Nat.lt_trichotomy g g' with h | h | h
    ·exact absurd (ht.symm.trans (hA' g hg h d hd k hk)) hc
    ·exact h
    ·exact absurd (ht'.symm.trans (hA g' hg' h d' hd' k' hk')) hc'
   obtain rfl:k=k':=by
    rcases Nat.lt_trichotomy k k' with h | h | h
    ·exact absurd (ht.symm.trans (hB' d hd k h)) hc
    ·exact h
    ·exact absurd (ht'.symm.trans (hB d' hd' k' h)) hc'
   obtain rfl:=hd.one hd';exact⟨ht.symm.trans ht',rfl,rfl⟩
end Go.Proofs.YtbjmgmmekmfjhaaGreatDoor
namespace Go.Proofs.YtbjmgmmekmfjhaaGreatDoor
open Go.RowKit
def ofTypes (ts:List Nat):Obj->Prop
 | .cells _ t _=>t∈ts
 | _=>False
structure aT (B:Nat)(ts:List Nat)(w w':World):Prop where
 os:w'.os=w.os
 tape:w'.tape=w.tape
 output:w'.output=w.output
 size:w.heap.size<=w'.heap.size
 block:∀k o,w.heap[k]?=some o->(k<B\/¬ofTypes ts o)->w'.heap[k]?=some o
theorem aT.refl(B:Nat)(ts:List Nat)(w:World):aT B ts w w:=⟨rfl,rfl,rfl,Nat.le_refl _,fun _ _ h _=>h⟩
theorem aT.trans{B:Nat}{ts:List Nat}{a b c:World}(h:aT B ts a b)(k:aT B ts b c):aT B ts a c:=
 ⟨k.os.trans h.os,k.tape.trans h.tape,k.output.trans h.output,Nat.le_trans h.size k.size,fun i o hi ho=>k.block i o (h.block i o hi ho) ho⟩
theorem aT.below{B:Nat}{ts:List Nat}{w w':World}(h:Below w.heap.size w w'):aT B ts w w':=
 ⟨h.os,h.tape,h.output,h.size,fun _ _ hi _=>ah hi h⟩
theorem aT.mono{B B':Nat}{ts ts':List Nat}{w w':World}(h:aT B ts w w')(hB:B'<=B)(ht:∀t∈ts,t∈ts'):aT B' ts' w w':=
 ⟨h.os,h.tape,h.output,h.size,fun k o hk ho=>h.block k o hk (by
  rcases ho with ho | ho
  ·exact .inl (by omega)
  ·refine .inr fun hx=>ho ?_
   cases o<;>first | exact ht _ hx | exact hx)⟩
theorem aT.toBelow{B:Nat}{ts:List Nat}{w w':World}(h:aT B ts w w')(hB:B<=w.heap.size):Below B w w':=
 ⟨h.os,h.tape,h.output,h.size,fun k hk=>by
  have:k<w.heap.size:=by omega
  rw[Array.getElem?_eq_getElem this];exact h.block k _ (Array.getElem?_eq_getElem this) (.inl hk)⟩
theorem aT.grown{B e size n:Nat}{ts:List Nat}{v:Value}{xs:List Value}{w w':World}(hown:w.ownsRow B e size v n xs)(hg:w.grownBy w' v.ownBlock)(he:e∈ts):aT B ts w w':=by
 refine⟨hg.os,hg.tape,hg.output,hg.size,fun k o hk ho=>?_⟩;have hlt:k<w.heap.size:=by
  rcases Nat.lt_or_ge k w.heap.size with h' | h'
  ·exact h'
  ·rw[Array.getElem?_eq_none h'] at hk;cases hk
 rw[hg.block k hlt ?_]
 ·exact hk
 ·intro hkv;rcases hown.2 with ⟨rfl,-⟩ | ⟨g,cap,cur,rfl,hb,hh,-⟩
  ·simp[Value.ownBlock] at hkv
  ·simp[Value.ownBlock] at hkv
   subst hkv;rw[hh] at hk
   cases hk;rcases ho with ho | ho
   ·omega
   ·exact ho he
theorem aT.cell{B:Nat}{ts:List Nat}{w w':World}(h:aT B ts w w'){b:Nat}{cs:Array Value}{t:TypeId}{fr:Nat×Nat}(hb:w.heap[b]?=some (.cells cs t fr))(ht:t∉ts):w'.heap[b]?=some (.cells cs t fr):=
 h.block b _ hb (.inr ht)
theorem aT.set{B g:Nat}{ts:List Nat}{a w:World}{c:Array Value}{t:TypeId}{fr:Nat×Nat}(h:aT B ts a w)(hg:w.heap[g]?=some (.cells c t fr))(ht:t∈ts)(hB:B<=g)(i:Nat)(v:Value):aT B ts a (w.setCell ⟨g,i,none⟩ v):=by
 refine⟨h.os,h.tape,h.output,by simpa using h.size,fun k o hk ho=>?_⟩;by_cases e:k=g
 ·subst e;have:=h.block k o hk ho;rw[hg] at this
  cases this;rcases ho with ho | ho
  ·omega
  ·exact absurd ht ho
 ·rw[Below.heap_setCell _ _ _ _ e];exact h.block k o hk ho
def aN (w w':World):Prop:=∀(b:Nat) (c:Array Value) (t:TypeId),w.heap[b]?=some (Obj.cells c t (0,0))->∃c':Array Value,w'.heap[b]?=some (Obj.cells c' t (0,0))/\c'.size=c.size
theorem aN.refl(w:World):aN w w:=fun _ c _ h=>⟨c,h,rfl⟩
theorem aN.trans{a b c:World}(h:aN a b)(k:aN b c):aN a c:=fun i x t hi=>by
 obtain⟨y,hy,e1⟩:=h i x t hi;obtain⟨z,hz,e2⟩:=k i y t hy;exact⟨z,hz,e2.trans e1⟩
theorem aN.below{w w':World}(h:Below w.heap.size w w'):aN w w':=fun _ c _ hb=>⟨c,ah hb h,rfl⟩
theorem aN.set{a w:World}{g:Nat}{c:Array Value}{t:TypeId}(h:aN a w)(hg:w.heap[g]?=some (.cells c t (0,0)))(i:Nat)(v:Value):aN a (w.setCell ⟨g,i,none⟩ v):=fun b x u hb=>by
 obtain⟨y,hy,e1⟩:=h b x u hb;by_cases e:b=g
 ·subst e;rw[hg] at hy
  cases hy;exact⟨_,ak hg v,by simpa using e1⟩
 ·exact⟨y,by rw[Below.heap_setCell _ _ _ _ e];exact hy,e1⟩
def cn (w:World)(g n:Nat):Prop:=∃cur:Array Value,w.heap[g]?=some (Obj.cells cur 9 (0,0))/\cur.size=n
def cf (w:World)(g n:Nat):Prop:=∃cur:Array Value,w.heap[g]?=some (Obj.cells cur 263 (0,0))/\cur.size=n*2
def cM (w:World)(lo g:Nat)(fs:List Fn):Prop:=∃cur:Array Value,w.heap[g]?=some (Obj.cells cur 160 (0,0))/\cur.size=fs.length*3 /\
 ∀j (hj:j<fs.length),∃gc,cur[j*3+2]?=some (.slice (some ⟨gc,0,none⟩) fs[j].code.length fs[j].code.length)/\lo<=gc/\cf w gc fs[j].code.length
theorem dc{lo g:Nat}{w w':World}{o:Obj}(h:aZ lo w w')(hg:lo<=g)(hb:w.heap[g]?=some o):w'.heap[g]?=some o:=by
 have hlt:g<w.heap.size:=by
  rcases Nat.lt_or_ge g w.heap.size with h' | h'
  ·exact h'
  ·rw[Array.getElem?_eq_none h'] at hb;cases hb
 rw[h g hg hlt];exact hb
theorem cn.mono{w w':World}{g n:Nat}(h:cn w g n)(hb:Below w.heap.size w w'):cn w' g n:=by
 obtain⟨c,h1,h2⟩:=h;exact⟨c,ah h1 hb,h2⟩
theorem cf.mono{w w':World}{g n:Nat}(h:cf w g n)(hb:Below w.heap.size w w'):cf w' g n:=by
 obtain⟨c,h1,h2⟩:=h;exact⟨c,ah h1 hb,h2⟩
theorem cM.mono{w w':World}{lo g:Nat}{fs:List Fn}(h:cM w lo g fs)(hb:Below w.heap.size w w'):cM w' lo g fs:=by
 obtain⟨c,h1,h2,h3⟩:=h;refine⟨c,ah h1 hb,h2,fun j hj=>?_⟩;obtain⟨gc,a,b,d⟩:=h3 j hj;exact⟨gc,a,b,d.mono hb⟩
theorem cn.above{w w':World}{lo g n:Nat}(h:cn w g n)(hb:aZ lo w w')(hg:lo<=g):cn w' g n:=by
 obtain⟨c,h1,h2⟩:=h;exact⟨c,dc hb hg h1,h2⟩
theorem cf.above{w w':World}{lo g n:Nat}(h:cf w g n)(hb:aZ lo w w')(hg:lo<=g):cf w' g n:=by
 obtain⟨c,h1,h2⟩:=h;exact⟨c,dc hb hg h1,h2⟩
theorem cM.above{w w':World}{lo lo' g:Nat}{fs:List Fn}(h:cM w lo g fs)(hb:aZ lo' w w')(hg:lo'<=g)(hl:lo'<=lo):cM w' lo g fs:=by
 obtain⟨c,h1,h2,h3⟩:=h;refine⟨c,dc hb hg h1,h2,fun j hj=>?_⟩;obtain⟨gc,a,b,d⟩:=h3 j hj;exact⟨gc,a,b,d.above hb (by omega)⟩
theorem cM.low{w:World}{lo lo' g:Nat}{fs:List Fn}(h:cM w lo g fs)(hl:lo'<=lo):cM w lo' g fs:=by
 obtain⟨c,h1,h2,h3⟩:=h;refine⟨c,h1,h2,fun j hj=>?_⟩;obtain⟨gc,a,b,d⟩:=h3 j hj;exact⟨gc,a,by omega,d⟩
theorem cn.shape{w w':World}{g n:Nat}(h:cn w g n)(hs:aN w w'):cn w' g n:=by
 obtain⟨c,h1,h2⟩:=h;obtain⟨c',h3,h4⟩:=hs g c 9 h1;exact⟨c',h3,h4.trans h2⟩
theorem cf.shape{w w':World}{g n:Nat}(h:cf w g n)(hs:aN w w'):cf w' g n:=by
 obtain⟨c,h1,h2⟩:=h;obtain⟨c',h3,h4⟩:=hs g c 263 h1;exact⟨c',h3,h4.trans h2⟩
theorem info3:(Tryz.prog.info? 3).map (fun i=>(i.zero,i.size,i.bytes))=some (some (.int .i64 0),1,8):=by kernel_rfl
def a9 (w:World)(lo:Nat)(a:Option Addr)(xs:List Int):Prop:=
 ∀i (h:i<xs.length),∃b off,a=some ⟨b,off,none⟩/\lo<=b/\w.cell? ⟨b,off+i,none⟩=some (.int .i64 xs[i])
theorem a9.mono{w w':World}{lo:Nat}{a:Option Addr}{xs:List Int}(h:a9 w lo a xs)(hb:Below w.heap.size w w'):a9 w' lo a xs:=by
 intro i hi;obtain⟨b,off,h1,h2,h3⟩:=h i hi;exact⟨b,off,h1,h2,cell_later hb h3⟩
theorem a9.low{w:World}{lo lo':Nat}{a:Option Addr}{xs:List Int}(h:a9 w lo a xs)(hl:lo'<=lo):a9 w lo' a xs:=fun i hi=>by
 obtain⟨b,off,h1,h2,h3⟩:=h i hi;exact⟨b,off,h1,by omega,h3⟩
theorem a9.above{w w':World}{lo:Nat}{a:Option Addr}{xs:List Int}(h:a9 w lo a xs)(hb:aZ lo w w'):a9 w' lo a xs:=by
 intro i hi;obtain⟨b,off,h1,h2,h3⟩:=h i hi;exact⟨b,off,h1,h2,hb.cell h2 h3⟩
theorem a9.own{w:World}{B n cap:Nat}{a:Option Addr}{xs:List Int}{vs:List Value}(h:w.ownsRow B 3 1 (.slice a n cap) n vs)(hv:vs=xs.map (Value.int .i64))(hn:n=xs.length):a9 w B a xs:=by
 subst hv;subst hn;rcases h.2 with ⟨-,hn⟩ | ⟨g,cap,cur,hv,hb,hh,hn,-,hs,htake⟩
 ·exact fun i hi=>by omega
 ·cases hv;refine fun i hi=>⟨g,0,rfl,hb,?_⟩
  rw[ae hh,Nat.zero_add];have h1:(cur.toList.take (xs.length*1))[i]?=(xs.map (Value.int .i64))[i]?:=by rw[htake]
  rw[List.getElem?_take_of_lt (by omega)] at h1;simpa[hi] using h1
theorem next25(a:Int)(pc:Nat):nextB 25 a pc=[]:=rfl
theorem next17(a:Int)(pc:Nat):nextB 17 a pc=[a]:=rfl
theorem next18(a:Int)(pc:Nat):nextB 18 a pc=[(pc:Int)+1,a]:=rfl
theorem next19(a:Int)(pc:Nat):nextB 19 a pc=[(pc:Int)+1,a]:=rfl
theorem next_else{op:Int}(a:Int)(pc:Nat)(h1:op≠25)(h2:op≠17)(h3:op≠18)(h4:op≠19):nextB op a pc=[(pc:Int)+1]:=by
 unfold nextB;rw[if_neg h1,if_neg h2,if_neg (by omega)]
theorem fR(W:World)(n:Nat)(hn:W.heap.size=n)(v:Value)(t:TypeId):∀(j:Nat) (u:Value),[v][j]?=some u->(W.alloc (.cells #[v] t)).cell? ((⟨n,0,none⟩:Addr).add j)=some u:=by
 subst hn;exact cell_one_new _ _ _
theorem sNext_any(op a:Int)(pc:Nat)(w:World)(hpc:pc<=1048576) :
  Calls Tryz.prog 198 #[.agg #[.int .i64 op,.int .i64 a],.int .i64 pc] w fun e w'=>∃ad cap,e=.returned (.slice ad (nextB op a pc).length cap)/\a9 w' w.heap.size ad (nextB op a pc)/\Below w.heap.size w w':=by
 obtain⟨i0,hi,hz0,hz1,hz2⟩:=info_parts info3;by_cases h25:op=25
 ·subst h25;rw[next25];go_enter Tryz.func198,Tryz.ntmps198
  go_wp2;go_ret
  exact⟨_,_,rfl,fun i hi=>absurd hi (by simp),(b_r.alloc n_l _).alloc (by simp) _⟩
 have hM0:=au (al w #[.int .i64 op,.int .i64 a] 263) (.cells #[] 3);have hE0:((w.alloc (.cells #[.int .i64 op,.int .i64 a] 263)).alloc (.cells #[] 3)).ownsRow w.heap.size 3 1 (.slice (some ⟨w.heap.size+1,0,none⟩) 0 0) 0 []:=by
  have:=World.ownsRow_made (base:=w.heap.size) (e:=3) (size:=1) (w.alloc (.cells #[.int .i64 op,.int .i64 a] 263)) #[] 0 (by simp) (by unfold maxLen;omega) rfl;simpa using this
 have hbA:Below w.heap.size w ((w.alloc (.cells #[.int .i64 op,.int .i64 a] 263)).alloc (.cells #[] 3)):=(b_r.alloc n_l _).alloc (by simp) _;by_cases h17:op=17
 ·subst h17;rw[next17];go_enter Tryz.func198,Tryz.ntmps198
  go_wp2_with (first | (at_builtin;refine wpList_append_lies _ rfl _ _ 50 rfl w.heap.size 3 i0 (.int .i64 0) 1 8 Tryz.underlying50 hi hz0 hz1 hz2 rfl (by decide) _ _ _ rfl (World.ownsRow.alloc hE0 _) ⟨w.heap.size+1+1,0,none⟩ 1 1 [.int .i64 a] rfl rfl (fR _ _ (by simp) _ _) (by intro u hu;simp at hu;subst hu;rfl) (by decide) (by unfold maxLen;omega) (by omega) (by simp;omega) _ rfl ?_;intro g cap w1 hown1 hgrow1 hat1 hlt1))
  have hb1:Below w.heap.size w w1:=(hbA.alloc (by simp;omega) _).trans ((aT.grown (ts:=[3]) (World.ownsRow.alloc hE0 _) hgrow1 (by simp)).toBelow (by simp;omega));go_ret
  exact⟨_,_,rfl,a9.own hown1 (by simp) (by simp),hb1⟩
 by_cases h2:op=18\/op=19
 ·rcases h2 with rfl | rfl
  all_goals
   first | rw[next18] | rw[next19]
   clear h25 h17;go_enter Tryz.func198,Tryz.ntmps198
   go_wp2_with (first | (at_builtin;refine wpList_append_lies _ rfl _ _ 50 rfl w.heap.size 3 i0 (.int .i64 0) 1 8 Tryz.underlying50 hi hz0 hz1 hz2 rfl (by decide) _ _ _ rfl (World.ownsRow.alloc hE0 _) ⟨w.heap.size+1+1,0,none⟩ 1 1 [.int .i64 ((pc:Int)+1)] rfl rfl (fR _ _ (by simp) _ _) (by intro u hu;simp at hu;subst hu;rfl) (by decide) (by unfold maxLen;omega) (by omega) (by simp;omega) _ rfl ?_;intro g cap w1 hown1 hgrow1 hat1 hlt1;have hk1:=aT.grown (ts:=[3]) (World.ownsRow.alloc hE0 _) hgrow1 (by simp);have hb1:Below w.heap.size w w1:=(hbA.alloc (by simp;omega) _).trans (hk1.toBelow (by simp;omega));have hM1:=hk1.cell (au hM0 _) (by simp);have x1:=ae hM1;have hsz1:=hb1.size;simp only[Nat.zero_add,List.nil_append] at hown1;clear hk1 hgrow1 hat1 hlt1 hE0 hM0 hM1 hbA;go_wp2_with (at_builtin;refine wpList_append_lies _ rfl _ _ 50 rfl w.heap.size 3 i0 (.int .i64 0) 1 8 Tryz.underlying50 hi hz0 hz1 hz2 rfl (by decide) (.slice (some ⟨g,0,none⟩) 1 cap) 1 [.int .i64 ((pc:Int)+1)] rfl (World.ownsRow.alloc hown1 _) ⟨w1.heap.size,0,none⟩ 1 1 [.int .i64 a] rfl rfl (cell_one_new _ _ _) (by intro u hu;simp at hu;subst hu;rfl) (by decide) (by unfold maxLen;omega) (by omega) (by simp;omega) _ rfl ?_;intro g2 cap2 w2 hown2 hgrow2 hat2 hlt2)))
   have hb2:Below w.heap.size w w2:=(hb1.alloc hb1.size _).trans ((aT.grown (ts:=[3]) (World.ownsRow.alloc hown1 _) hgrow2 (by simp)).toBelow (by simp;omega));go_ret
   exact⟨_,_,rfl,a9.own hown2 (by simp) (by simp),hb2⟩
 ·have h18:op≠18:=fun h=>h2 (Or.inl h)
  have h19:op≠19:=fun h=>h2 (Or.inr h)
  rw[next_else a pc h25 h17 h18 h19];have b25:(op != 25)=true:=by simpa using h25
  have b17:(op != 17)=true:=by simpa using h17
  have d17:(op == 17)=false:=by simpa using h17
  have b18:(op == 18)=false:=by simpa using h18
  have b19:(op == 19)=false:=by simpa using h19
  clear h2 h25 h17 h18 h19;go_enter Tryz.func198,Tryz.ntmps198
  go_wp2_with (first | (at_builtin;refine wpList_append_lies _ rfl _ _ 50 rfl w.heap.size 3 i0 (.int .i64 0) 1 8 Tryz.underlying50 hi hz0 hz1 hz2 rfl (by decide) _ _ _ rfl (World.ownsRow.alloc hE0 _) ⟨w.heap.size+1+1,0,none⟩ 1 1 [.int .i64 ((pc:Int)+1)] rfl rfl (fR _ _ (by simp) _ _) (by intro u hu;simp at hu;subst hu;rfl) (by decide) (by unfold maxLen;omega) (by omega) (by simp;omega) _ rfl ?_;intro g cap w1 hown1 hgrow1 hat1 hlt1;have hk1:=aT.grown (ts:=[3]) (World.ownsRow.alloc hE0 _) hgrow1 (by simp);have hb1:Below w.heap.size w w1:=(hbA.alloc (by simp;omega) _).trans (hk1.toBelow (by simp;omega));have hM1:=hk1.cell (au hM0 _) (by simp);have x1:=ae hM1))
  go_ret
  exact⟨_,_,rfl,a9.own hown1 (by simp) (by simp),hb1⟩
end Go.Proofs.YtbjmgmmekmfjhaaGreatDoor
