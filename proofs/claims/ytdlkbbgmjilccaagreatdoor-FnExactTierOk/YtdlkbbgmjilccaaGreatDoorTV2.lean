/- TV2 -/
import Derived.Test.YtdlkbbgmjilccaaGreatDoorTV1
import Derived.Deep.Slices
import Derived.Deep.SlicePairs
import Derived.Deep.Strs
import Derived.OpenShut
import Derived.Lib.SmallJoins
import Derived.Deep.RegionHeld3
set_option maxHeartbeats 32000000
set_option maxRecDepth 100000
namespace Go.Proofs.YtdlkbbgmjilccaaGreatDoor
open Go.RowKit
theorem eqStringS_any(a a2:Option Addr)(ss:List ByteArray)(cap cap2:Nat)(w:World)(hn:ss.length<=1048576)(hm:aT w 0 a ss)(hm2:aT w 0 a2 ss) :
  Calls Tryz.prog 31 #[.slice a ss.length cap,.slice a2 ss.length cap2] w fun e w'=>e=.returned (.bool true)/\Below w.heap.size w w':=by
 go_enter Tryz.func31,Tryz.ntmps31
 go_wp2;go_loopw [5] (fun i wr=>∃(k:Nat),k<=ss.length/\i=.int .i64 k/\Below w.heap.size w wr) (fun i _=>ss.length-(intOf i).toNat)
 case atStart=>exact⟨0,by omega,rfl,Below.refl _ _⟩
 case round=>
  obtain⟨k,hk,rfl,hb⟩:=hrel;by_cases hlt:k<ss.length
  ·obtain⟨b,off,rfl,-,c1⟩:=hm k hlt;obtain⟨b2,off2,rfl,-,c2⟩:=hm2 k hlt;have c1':=cell_later hb c1;have c2':=cell_later hb c2;clear c1 c2;go_wp2;go_quiet (fail)
   go_wp2;go_roundw
   case rel=>exact⟨k+1,by omega,by go_num,aC hb _⟩
   case measure=>simp[intOf];omega
  ·go_wp2;go_ret
   exact⟨rfl,hb⟩
theorem eqIns_same(o a:Int)(w:World) :
  Calls Tryz.prog 166 #[.agg #[.int .i64 o,.int .i64 a],.agg #[.int .i64 o,.int .i64 a]] w fun e w'=>e=.returned (.bool true)/\Below w.heap.size w w':=by
 go_enter Tryz.func166,Tryz.ntmps166
 go_wp2;go_ret
 exact⟨rfl,(gM.alloc nL _).alloc (by simp) _⟩
theorem eqInsS_any(a a2:Option Addr)(xs:List (Int×Int))(cap cap2:Nat)(w:World)(hn:xs.length<=1048576)(hm:bi w 0 a xs)(hm2:bi w 0 a2 xs) :
  Calls Tryz.prog 120 #[.slice a xs.length cap,.slice a2 xs.length cap2] w fun e w'=>e=.returned (.bool true)/\Below w.heap.size w w':=by
 go_enter Tryz.func120,Tryz.ntmps120
 go_wp2;go_loopw [5] (fun i wr=>∃(k:Nat),k<=xs.length/\i=.int .i64 k/\Below w.heap.size w wr) (fun i _=>xs.length-(intOf i).toNat)
 case atStart=>exact⟨0,by omega,rfl,Below.refl _ _⟩
 case round=>
  obtain⟨k,hk,rfl,hb⟩:=hrel;by_cases hlt:k<xs.length
  ·obtain⟨b,off,rfl,-,c1,d1⟩:=hm k hlt;obtain⟨b2,off2,rfl,-,c2,d2⟩:=hm2 k hlt;have c1':=cell_later hb c1;have c2':=cell_later hb c2;have d1':=cell_later hb d1;have d2':=cell_later hb d2;clear c1 c2 d1 d2;go_wp2;go_region_with (go_at_call 166;refine (eqIns_same _ _ _).mono ?_;rintro e w1 ⟨rfl,hb1⟩)
   all_goals
    go_wp2;go_roundw
    case rel=>
     refine⟨k+1,by omega,by go_num,Below.trans ?_ (hb1.mono ?_)⟩
     ·repeat (first | exact hb | apply Below.drew)
     ·exact hb.size
    case measure=>simp[intOf];omega
  ·go_wp2;go_ret
   exact⟨rfl,hb⟩
theorem eqFunc_any(p l:Int)(a a2:Option Addr)(xs:List (Int×Int))(cap cap2:Nat)(w:World)(hn:xs.length<=1048576)(hm:bi w 0 a xs)(hm2:bi w 0 a2 xs) :
  Calls Tryz.prog 70 #[.agg #[.int .i64 p,.int .i64 l,.slice a xs.length cap],.agg #[.int .i64 p,.int .i64 l,.slice a2 xs.length cap2]] w fun e w'=>e=.returned (.bool true)/\Below w.heap.size w w':=by
 go_enter Tryz.func70,Tryz.ntmps70
 go_wp2_with fail
 have hbA:Below w.heap.size w ((w.alloc (.cells #[.int .i64 p,.int .i64 l,.slice a xs.length cap] 107)).alloc (.cells #[.int .i64 p,.int .i64 l,.slice a2 xs.length cap2] 107)):=(gM.alloc nL _).alloc (by simp) _;refine (eqInsS_any a a2 xs cap cap2 _ hn (hm.mono hbA) (hm2.mono hbA)).mono ?_;rintro e w1 ⟨rfl,hb⟩;go_wp2;go_ret
 exact⟨rfl,hbA.trans (hb.mono (by simp;omega))⟩
theorem eqFuncS_any(a a2:Option Addr)(fs:List Fn)(cap cap2:Nat)(w:World)(hn:fs.length<=1048576)(hc:∀f∈fs,f.code.length<=1048576)(hm:FnsAt w 0 a fs)(hm2:FnsAt w 0 a2 fs) :
  Calls Tryz.prog 32 #[.slice a fs.length cap,.slice a2 fs.length cap2] w fun e w'=>e=.returned (.bool true)/\Below w.heap.size w w':=by
 go_enter Tryz.func32,Tryz.ntmps32
 go_wp2;go_loopw [5] (fun i wr=>∃(k:Nat),k<=fs.length/\i=.int .i64 k/\Below w.heap.size w wr) (fun i _=>fs.length-(intOf i).toNat)
 case atStart=>exact⟨0,by omega,rfl,Below.refl _ _⟩
 case round=>
  obtain⟨k,hk,rfl,hb⟩:=hrel;by_cases hlt:k<fs.length
  ·obtain⟨b,off,ca,cc,rfl,-,c1,d1,e1,f1⟩:=hm k hlt;obtain⟨b2,off2,ca2,cc2,rfl,-,c2,d2,e2,f2⟩:=hm2 k hlt;have c1':=cell_later hb c1;have c2':=cell_later hb c2;have d1':=cell_later hb d1;have d2':=cell_later hb d2;have e1':=cell_later hb e1;have e2':=cell_later hb e2;have hck:=hc fs[k] (n_l hlt);clear c1 c2 d1 d2 e1 e2;go_wp2;go_region_with (go_at_call 70;refine (eqFunc_any _ _ _ _ _ _ _ _ hck (by exact f1.mono (by repeat (first | exact hb | apply Below.drew))) (by exact f2.mono (by repeat (first | exact hb | apply Below.drew)))).mono ?_;rintro e w1 ⟨rfl,hb1⟩)
   all_goals
    go_wp2;go_roundw
    case rel=>
     refine⟨k+1,by omega,by go_num,Below.trans ?_ (hb1.mono ?_)⟩
     ·repeat (first | exact hb | apply Below.drew)
     ·exact hb.size
    case measure=>simp[intOf];omega
  ·go_wp2;go_ret
   exact⟨rfl,hb⟩
theorem eqModule_any(a1 a2:Option Addr)(b1 b2:Option Addr)(ts:List ByteArray)(fs:List Fn)(c1 c2 d1 d2:Nat)(w:World)(hs:b9 ts fs)(hm:aT w 0 a1 ts)(hm2:aT w 0 b1 ts)(hf:FnsAt w 0 a2 fs)(hf2:FnsAt w 0 b2 fs) :
  Calls Tryz.prog 10 #[.agg #[.slice a1 ts.length c1,.slice a2 fs.length c2],.agg #[.slice b1 ts.length d1,.slice b2 fs.length d2]] w fun e w'=>e=.returned (.bool true)/\Below w.heap.size w w':=by
 go_enter Tryz.func10,Tryz.ntmps10
 go_wp2_with fail
 have hbA:Below w.heap.size w ((w.alloc (.cells #[.slice a1 ts.length c1,.slice a2 fs.length c2] 42)).alloc (.cells #[.slice b1 ts.length d1,.slice b2 fs.length d2] 42)):=(gM.alloc nL _).alloc (by simp) _;refine (eqStringS_any a1 b1 ts c1 d1 _ hs.texts (hm.mono hbA) (hm2.mono hbA)).mono ?_;rintro e w1 ⟨rfl,hb⟩;have hA:=ab (al (ah w #[.slice a1 ts.length c1,.slice a2 fs.length c2] 42) (.cells #[.slice b1 ts.length d1,.slice b2 fs.length d2] 42)) hb;have hB:=ab (ah (w.alloc (.cells #[.slice a1 ts.length c1,.slice a2 fs.length c2] 42)) #[.slice b1 ts.length d1,.slice b2 fs.length d2] 42) hb;simp only[World.size_alloc] at hA hB
 have x1:=aa hA;have x2:=aa hB;have hb1:Below w.heap.size w w1:=hbA.trans (hb.mono (by simp;omega));clear hA hB;go_wp2_with fail
 refine (eqFuncS_any a2 b2 fs c2 d2 _ hs.funcs hs.code (hf.mono hb1) (hf2.mono hb1)).mono ?_;rintro e w2 ⟨rfl,hb2⟩;go_wp2;go_ret
 exact⟨rfl,hb1.trans (hb2.mono hb1.size)⟩
end Go.Proofs.YtdlkbbgmjilccaaGreatDoor
namespace Go.Proofs.YtdlkbbgmjilccaaGreatDoor
open Go.RowKit Go.Deep Go.ChangeShapes Go.WideShapes
section
variable {H:Type} {enc:TypeId×Value->H} {P:Program} {w:World} {base:Nat} {spare:Nat->Bool} {held:Bool}
theorem bG{a:Addr}{v:Value}(h:w.cell? (a.add 0)=some v):∃b off,a=⟨b,off,none⟩:=by
 obtain⟨b,off,spot⟩:=a;have hspot:spot=none:=by simpa[Addr.add] using World.cell?_spot h
 subst hspot;exact⟨b,off,rfl⟩
theorem read_strs{t e:TypeId}{fuel:Nat}{v:Value}{y:DataW H×List MemPlace}(ht:P.underlying t=some (.slice e))(he:P.underlying e=some .string)(hc:P.cellsOf e=1)
  (h:DataW.trod enc P w base spare held fuel t [v]=some y) :
  ∃a cap ss,v=.slice a ss.length cap/\ss.length<=maxLen/\(∀s∈ss,s.size<=maxLen)/\aT w 0 a ss:=by
 rcases open_strs ht he hc h with ⟨hcs,-⟩ | ⟨a,len,cap,m,Sx,hcs,-,hl,hm,hmm,-,hx⟩
 ·simp at hcs
  exact⟨none,0,[],by simpa using hcs,by simp,by simp,fun i hi=>by simp at hi⟩
 ·simp at hcs
  have hlm:len<=m:=by rw[hmm];split<;>omega
  refine⟨some a,cap,(List.range len).map Sx,by simpa using hcs,by simp;omega,?_,?_⟩
  ·intro s hs;obtain⟨i,hi,rfl⟩:=List.mem_map.1 hs;exact (hx i (by have:=List.mem_range.1 hi;omega)).2
  ·intro i hi;have hi':i<len:=by simpa using hi
   obtain⟨b,off,rfl⟩:=bG (hx 0 (by omega)).1;have hcell:=(hx i (by omega)).1;rw[Go.WideShapes.add_plain] at hcell;exact⟨b,off,rfl,Nat.zero_le _,by simpa using hcell⟩
theorem read_code{t e:TypeId}{f0 f1:Field}{fuel:Nat}{v:Value}{y:DataW H×List MemPlace}(ht:P.underlying t=some (.slice e))(he:P.underlying e=some (.struct #[f0,f1]))
  (ce:P.cellsOf e=2) (o0:f0.offset=0) (o1:f1.offset=1) (c0:P.cellsOf f0.type=1) (c1:P.cellsOf f1.type=1) (k0:P.underlying f0.type=some (.int .i64)) (k1:P.underlying f1.type=some (.int .i64))
  (h:DataW.trod enc P w base spare held fuel t [v]=some y) :
  ∃a cap xs,v=.slice a xs.length cap/\xs.length<=maxLen/\bi w 0 a xs:=by
 rcases open_slice_pairs ht he ce o0 o1 c0 c1 h with ⟨hcs,-⟩ | ⟨a,len,cap,m,n,V0,V1,D0,D1,P0,P1,hcs,-,hl,hm,hmm,-,hx⟩
 ·simp at hcs
  exact⟨none,0,[],by simpa using hcs,by simp,fun i hi=>by simp at hi⟩
 ·simp at hcs
  have hlm:len<=m:=by rw[hmm];split<;>omega
  obtain⟨q,hq⟩:=choose_lt (α:=Int×Int) (n:=m) (p:=fun i z=>V0 i=.int .i64 z.1/\V1 i=.int .i64 z.2) (fun i hi=>by
   obtain⟨-,-,g0,g1⟩:=hx i hi;obtain⟨z0,e0,-,-⟩:=DataW.trod_int k0 g0;obtain⟨z1,e1,-,-⟩:=DataW.trod_int k1 g1;exact⟨(z0,z1),by simpa using e0,by simpa using e1⟩)
  refine⟨some a,cap,(List.range len).map q,by simpa using hcs,by simp;omega,?_⟩;intro i hi;have hi':i<len:=by simpa using hi
  obtain⟨h0,h1,-,-⟩:=hx i (by omega);rw[(hq i (by omega)).1] at h0;rw[(hq i (by omega)).2] at h1;obtain⟨b,off,rfl⟩:=bG (by simpa using (hx 0 (by omega)).1);rw[Go.WideShapes.add_plain] at h0;rw[Go.WideShapes.add_plain,<-Nat.add_assoc] at h1;exact⟨b,off,rfl,Nat.zero_le _,by simpa using h0,by simpa using h1⟩
theorem read_fns{t e tc ec:TypeId}{f0 f1 f2 g0 g1:Field}{fuel:Nat}{v:Value}{y:DataW H×List MemPlace}(ht:P.underlying t=some (.slice e))(he:P.underlying e=some (.struct #[f0,f1,f2]))
  (ce:P.cellsOf e=3) (o0:f0.offset=0) (o1:f1.offset=1) (o2:f2.offset=2) (c0:P.cellsOf f0.type=1) (c1:P.cellsOf f1.type=1) (c2:P.cellsOf f2.type=1)
  (k0:P.underlying f0.type=some (.int .i64)) (k1:P.underlying f1.type=some (.int .i64)) (k2:f2.type=tc)
  (htc:P.underlying tc=some (.slice ec)) (hec:P.underlying ec=some (.struct #[g0,g1]))
  (cec:P.cellsOf ec=2) (p0:g0.offset=0) (p1:g1.offset=1) (d0:P.cellsOf g0.type=1) (d1:P.cellsOf g1.type=1) (l0:P.underlying g0.type=some (.int .i64)) (l1:P.underlying g1.type=some (.int .i64))
  (h:DataW.trod enc P w base spare held fuel t [v]=some y) :
  ∃a cap fs,v=.slice a fs.length cap/\fs.length<=maxLen/\(∀f∈fs,f.code.length<=maxLen)/\FnsAt w 0 a fs:=by
 rcases open_slice ht h with ⟨hcs,-⟩ | ⟨a,len,cap,m,n,D,Pl,hcs,-,hl,hm,hmm,-,hx⟩
 ·simp at hcs
  exact⟨none,0,[],by simpa using hcs,by simp,by simp,fun i hi=>by simp at hi⟩
 ·simp at hcs
  have hlm:len<=m:=by rw[hmm];split<;>omega
  have inh:Inhabited Fn:=⟨⟨0,0,[]⟩⟩;have hplain:∀i,i<m->∃b off,a=⟨b,off,none⟩:=fun i hi=>by
   obtain⟨cs',h1,-⟩:=hx 0 (by omega);rw[ce] at h1;obtain⟨_,hlen,hcell⟩:=World.cells?_some h1;have e0:=hcell 0 (by omega);rw[add_add] at e0;match cs',hlen with
   | [v0,v1,v2],_=>exact bG (by simpa using e0)
  obtain⟨q,hq⟩:=choose_lt (α:=Fn) (n:=m) (p:=fun i z=>z.code.length<=maxLen/\∃b off ca cc,a=⟨b,off,none⟩/\w.cell? ⟨b,off+i*3,none⟩=some (.int .i64 z.params) /\
    w.cell? ⟨b,off+i*3+1,none⟩=some (.int .i64 z.locals)/\w.cell? ⟨b,off+i*3+2,none⟩=some (.slice ca z.code.length cc)/\bi w 0 ca z.code) (fun i hi=>by
   obtain⟨cs',h1,h2⟩:=hx i hi;rw[ce] at h1;obtain⟨_,hlen,hcell⟩:=World.cells?_some h1;obtain⟨y0,y1,y2,n',-,-,t0,t1,t2⟩:=trod_struct3 he h2;match cs',hlen with
   | [v0,v1,v2],_=>
    simp[o0,o1,o2,c0,c1,c2] at t0 t1 t2
    have e0:=hcell 0 (by omega);have e1:=hcell 1 (by omega);have e2:=hcell 2 (by omega);rw[add_add] at e0 e1 e2;simp at e0 e1 e2
    obtain⟨z0,x0,-,-⟩:=DataW.trod_int k0 t0;obtain⟨z1,x1,-,-⟩:=DataW.trod_int k1 t1;rw[k2] at t2;obtain⟨ca,cc,xs,x2,hxs,hcode⟩:=read_code htc hec cec p0 p1 d0 d1 l0 l1 t2;simp at x0 x1
    rw[x0] at e0;rw[x1] at e1;rw[x2] at e2;obtain⟨b,off,rfl⟩:=hplain i hi;rw[Go.WideShapes.add_plain] at e0;rw[Go.WideShapes.add_plain,<-Nat.add_assoc] at e1 e2;exact⟨⟨z0,z1,xs⟩,hxs,b,off,ca,cc,rfl,e0,e1,e2,hcode⟩)
  refine⟨some a,cap,(List.range len).map q,by simpa using hcs,by simp;omega,?_,?_⟩
  ·intro f hf;obtain⟨i,hi,rfl⟩:=List.mem_map.1 hf;exact (hq i (by have:=List.mem_range.1 hi;omega)).1
  ·intro i hi;have hi':i<len:=by simpa using hi
   obtain⟨-,b,off,ca,cc,rfl,r0,r1,r2,r3⟩:=hq i (by omega);exact⟨b,off,ca,cc,rfl,Nat.zero_le _,by simpa using r0,by simpa using r1,by simpa using r2,by simpa using r3⟩
end
end Go.Proofs.YtdlkbbgmjilccaaGreatDoor
namespace Go.Proofs.YtdlkbbgmjilccaaGreatDoor
open Go.RowKit
structure Si where
 f:Int
 pc:Int
 seen:Int
 target:Int
def Si.cells (s:Si):Array Value:=#[.int .i64 s.f,.int .i64 s.pc,.int .i64 s.seen,.int .i64 s.target]
def aS (w:World)(lo:Nat)(a:Option Addr)(ss:List Si):Prop:=
 ∀i (h:i<ss.length),∃b off,a=some ⟨b,off,none⟩/\lo<=b/\w.cell? ⟨b,off+i*4,none⟩=some (.int .i64 ss[i].f)/\w.cell? ⟨b,off+i*4+1,none⟩=some (.int .i64 ss[i].pc)/\w.cell? ⟨b,off+i*4+2,none⟩=some (.int .i64 ss[i].seen)/\w.cell? ⟨b,off+i*4+3,none⟩=some (.int .i64 ss[i].target)
theorem aS.mono{w w':World}{lo:Nat}{a:Option Addr}{ss:List Si}(h:aS w lo a ss)(hb:Below w.heap.size w w'):aS w' lo a ss:=by
 intro i hi;obtain⟨b,off,h1,h2,h3,h4,h5,h6⟩:=h i hi;exact⟨b,off,h1,h2,cell_later hb h3,cell_later hb h4,cell_later hb h5,cell_later hb h6⟩
theorem aS.low{w:World}{lo lo':Nat}{a:Option Addr}{ss:List Si}(h:aS w lo a ss)(hl:lo'<=lo):aS w lo' a ss:=by
 intro i hi;obtain⟨b,off,h1,h2,h3⟩:=h i hi;exact⟨b,off,h1,Nat.le_trans hl h2,h3⟩
open Go.Deep Go.ChangeShapes Go.WideShapes Go.Joins
section
variable {H:Type} {enc:TypeId×Value->H} {P:Program} {w:World} {base:Nat} {spare:Nat->Bool} {held:Bool}
theorem read_sites{t e:TypeId}{f0 f1 f2 f3:Field}(ht:P.underlying t=some (.slice e))(he:P.underlying e=some (.struct #[f0,f1,f2,f3]))
  (ce:P.cellsOf e=4) (o0:f0.offset=0) (o1:f1.offset=1) (o2:f2.offset=2) (o3:f3.offset=3) (c0:P.cellsOf f0.type=1) (c1:P.cellsOf f1.type=1) (c2:P.cellsOf f2.type=1) (c3:P.cellsOf f3.type=1)
  (k0:P.underlying f0.type=some (.int .i64)) (k1:P.underlying f1.type=some (.int .i64)) (k2:P.underlying f2.type=some (.int .i64)) (k3:P.underlying f3.type=some (.int .i64))
  {fuel:Nat}{v:Value}{y:DataW H×List MemPlace}(h:DataW.trod enc P w base spare held fuel t [v]=some y) :
  ∃a cap ss,v=.slice a ss.length cap/\ss.length<=maxLen/\aS w 0 a ss:=by
 rcases open_slice ht h with ⟨hcs,-⟩ | ⟨a,len,cap,m,n,D,Pl,hcs,-,hl,hm,hmm,-,hx⟩
 ·simp at hcs
  exact⟨none,0,[],by simpa using hcs,by simp,fun i hi=>by simp at hi⟩
 ·simp at hcs
  have hlm:len<=m:=by rw[hmm];split<;>omega
  have inh:Inhabited Si:=⟨⟨0,0,0,0⟩⟩;have hplain:∀i,i<m->∃b off,a=⟨b,off,none⟩:=fun i hi=>by
   obtain⟨cs',h1,-⟩:=hx 0 (by omega);rw[ce] at h1;obtain⟨_,hlen,hcell⟩:=World.cells?_some h1;have e0:=hcell 0 (by omega);rw[add_add] at e0;match cs',hlen with
   | [v0,v1,v2,v3],_=>exact bG (by simpa using e0)
  obtain⟨q,hq⟩:=choose_lt (α:=Si) (n:=m) (p:=fun i z=>∃b off,a=⟨b,off,none⟩/\w.cell? ⟨b,off+i*4,none⟩=some (.int .i64 z.f) /\
    w.cell? ⟨b,off+i*4+1,none⟩=some (.int .i64 z.pc)/\w.cell? ⟨b,off+i*4+2,none⟩=some (.int .i64 z.seen)/\w.cell? ⟨b,off+i*4+3,none⟩=some (.int .i64 z.target)) (fun i hi=>by
   obtain⟨cs',h1,h2⟩:=hx i hi;rw[ce] at h1;obtain⟨_,hlen,hcell⟩:=World.cells?_some h1;obtain⟨y0,y1,y2,y3,n',-,-,t0,t1,t2,t3⟩:=trod_struct4 he h2;match cs',hlen with
   | [v0,v1,v2,v3],_=>
    simp[o0,o1,o2,o3,c0,c1,c2,c3] at t0 t1 t2 t3
    have e0:=hcell 0 (by omega);have e1:=hcell 1 (by omega);have e2:=hcell 2 (by omega);have e3:=hcell 3 (by omega);rw[add_add] at e0 e1 e2 e3;simp at e0 e1 e2 e3
    obtain⟨z0,x0,-,-⟩:=DataW.trod_int k0 t0;obtain⟨z1,x1,-,-⟩:=DataW.trod_int k1 t1;obtain⟨z2,x2,-,-⟩:=DataW.trod_int k2 t2;obtain⟨z3,x3,-,-⟩:=DataW.trod_int k3 t3;simp at x0 x1 x2 x3
    rw[x0] at e0;rw[x1] at e1;rw[x2] at e2;rw[x3] at e3;obtain⟨b,off,rfl⟩:=hplain i hi;rw[Go.WideShapes.add_plain] at e0;rw[Go.WideShapes.add_plain,<-Nat.add_assoc] at e1 e2 e3;exact⟨⟨z0,z1,z2,z3⟩,b,off,rfl,e0,e1,e2,e3⟩)
  refine⟨some a,cap,(List.range len).map q,by simpa using hcs,by simp;omega,?_⟩;intro i hi;have hi':i<len:=by simpa using hi
  obtain⟨b,off,rfl,r0,r1,r2,r3⟩:=hq i (by omega);exact⟨b,off,rfl,Nat.zero_le _,by simpa using r0,by simpa using r1,by simpa using r2,by simpa using r3⟩
end
def cmpI (x y:Int):Int:=if x<y then -1 else if y<x then 1 else 0
theorem eI(x:Int)(w:World):Calls Tryz.prog 205 #[.int .i64 x] w fun e w'=>e=.returned (.bool false)/\w'=w:=by
 go_enter Tryz.func205,Tryz.ntmps205
 go_wp2;go_ret
 exact⟨aj (by simp),rfl⟩
theorem compare_any(x y:Int)(w:World):Calls Tryz.prog 183 #[.int .i64 x,.int .i64 y] w fun e w'=>e=.returned (.int .i64 (cmpI x y))/\w'=w:=by
 unfold cmpI;by_cases h1:x<y
 ·rw[if_pos h1];go_enter Tryz.func183,Tryz.ntmps183
  go_wp2_with (go_at_call 205;refine (eI _ _).mono ?_;rintro e w' ⟨rfl,rfl⟩)
  go_ret
  exact⟨rfl,rfl⟩
 ·rw[if_neg h1];by_cases h2:y<x
  ·rw[if_pos h2];go_enter Tryz.func183,Tryz.ntmps183
   go_wp2_with (go_at_call 205;refine (eI _ _).mono ?_;rintro e w' ⟨rfl,rfl⟩)
   go_ret
   exact⟨rfl,rfl⟩
  ·rw[if_neg h2];go_enter Tryz.func183,Tryz.ntmps183
   go_wp2_with (go_at_call 205;refine (eI _ _).mono ?_;rintro e w' ⟨rfl,rfl⟩)
   go_ret
   exact⟨rfl,rfl⟩
theorem cX(op:Int)(w:World):Calls Tryz.prog 119 #[.int .i64 op] w fun e w'=>e=.returned (.bool (decide (11<=op/\op<=14)))/\w'=w:=by
 by_cases h1:op=11
 ·subst h1;go_enter Tryz.func119,Tryz.ntmps119;go_wp2;go_ret;exact⟨rfl,rfl⟩
 by_cases h2:op=12
 ·subst h2;go_enter Tryz.func119,Tryz.ntmps119;go_wp2;go_ret;exact⟨rfl,rfl⟩
 by_cases h3:op=13
 ·subst h3;go_enter Tryz.func119,Tryz.ntmps119;go_wp2;go_ret;exact⟨rfl,rfl⟩
 by_cases h4:op=14
 ·subst h4;go_enter Tryz.func119,Tryz.ntmps119;go_wp2;go_ret;exact⟨rfl,rfl⟩
 go_enter Tryz.func119,Tryz.ntmps119
 go_wp2;go_ret
 exact⟨aj (by symm;simp;omega),rfl⟩
theorem fS(op:Int)(w:World):Calls Tryz.prog 91 #[.int .i64 op] w fun e w'=>e=.returned (.bool (decide (11<=op/\op<=14\/op=23)))/\w'=w:=by
 by_cases h1:op=11
 ·subst h1;go_enter Tryz.func91,Tryz.ntmps91;go_wp2;go_ret;exact⟨rfl,rfl⟩
 by_cases h2:op=12
 ·subst h2;go_enter Tryz.func91,Tryz.ntmps91;go_wp2;go_ret;exact⟨rfl,rfl⟩
 by_cases h3:op=13
 ·subst h3;go_enter Tryz.func91,Tryz.ntmps91;go_wp2;go_ret;exact⟨rfl,rfl⟩
 by_cases h4:op=14
 ·subst h4;go_enter Tryz.func91,Tryz.ntmps91;go_wp2;go_ret;exact⟨rfl,rfl⟩
 by_cases h5:op=23
 ·subst h5;go_enter Tryz.func91,Tryz.ntmps91;go_wp2;go_ret;exact⟨rfl,rfl⟩
 go_enter Tryz.func91,Tryz.ntmps91
 go_wp2;go_ret
 exact⟨aj (by symm;simp;omega),rfl⟩
theorem dz(f p s t:Int)(w:World) :
  Calls Tryz.prog 113 #[.agg #[.int .i64 f,.int .i64 p,.int .i64 s,.int .i64 t]] w fun e w'=>e=.returned (.agg #[.int .i64 f,.int .i64 p])/\Below w.heap.size w w':=by
 go_enter Tryz.func113,Tryz.ntmps113
 go_wp2;refine bodyPost_ret (v:=.agg #[.int .i64 f,.int .i64 p]) (by simp[results,Tryz.results113,go_sem]) rfl ⟨rfl,?_⟩;repeat (first | refine Below.setCell ?_ (by first | omega | (simp;omega) | simp) _ | refine Below.alloc ?_ (by first | omega | (simp;omega) | simp) _ | exact Below.refl _ _)
def a5 (a b:Si):Prop:=a.f<b.f\/a.f=b.f/\a.pc<b.pc
instance (a b:Si):Decidable (a5 a b):=by unfold a5;infer_instance
theorem less_any(a b:Si)(w:World) :
  Calls Tryz.prog 90 #[.agg #[.int .i64 a.f,.int .i64 a.pc,.int .i64 a.seen,.int .i64 a.target],.agg #[.int .i64 b.f,.int .i64 b.pc,.int .i64 b.seen,.int .i64 b.target]] w fun e w'=>e=.returned (.bool (decide (a5 a b)))/\Below w.heap.size w w':=by
 obtain⟨af,ap,asn,atg⟩:=a;obtain⟨bf,bp,bsn,btg⟩:=b;unfold a5;dsimp only
 by_cases h1:af<bf
 ·go_enter Tryz.func90,Tryz.ntmps90
  go_wp2;go_ret
  exact⟨aj (by first | rfl | (simp[h1];done) | (rw[Bool.eq_iff_iff];simp;omega) | (simp;omega)),(gM.alloc nL _).alloc (by simp) _⟩
 ·by_cases h2:af=bf
  ·subst h2;by_cases h3:ap<bp
   all_goals
    go_enter Tryz.func90,Tryz.ntmps90
    go_wp2;go_ret
    exact⟨aj (by first | rfl | (rw[Bool.eq_iff_iff];simp;omega) | (simp;omega) | simp),(gM.alloc nL _).alloc (by simp) _⟩
  ·go_enter Tryz.func90,Tryz.ntmps90
   go_wp2;go_ret
   exact⟨aj (by first | rfl | (rw[Bool.eq_iff_iff];simp;omega) | (simp;omega)),(gM.alloc nL _).alloc (by simp) _⟩
def orI (x y:Int):Int:=if x=0 then y else x
theorem or_any(x y:Int)(g cap:Nat)(w:World)(h0:w.cell? ⟨g,0,none⟩=some (.int .i64 x))(h1:w.cell? ⟨g,1,none⟩=some (.int .i64 y)) :
  Calls Tryz.prog 182 #[.slice (some ⟨g,0,none⟩) 2 cap] w fun e w'=>e=.returned (.int .i64 (orI x y))/\Below w.heap.size w w':=by
 unfold orI;go_enter Tryz.func182,Tryz.ntmps182
 go_wp2;go_loopw [8] (fun i wr=>∃(k:Nat),k<=2/\i=.int .i64 k/\Hid (0<k->x=0)/\Hid (1<k->y=0)/\Below w.heap.size w wr) (fun i _=>2-(intOf i).toNat)
 case atStart=>exact⟨0,by omega,rfl,fun h=>absurd h (by omega),fun h=>absurd h (by omega),Below.refl _ _⟩
 case round=>
  obtain⟨k,hk,rfl,hx,hy,hb⟩:=hrel;have c0:=cell_later hb h0;have c1:=cell_later hb h1;clear h0 h1;obtain rfl | rfl | rfl:k=0\/k=1\/k=2:=by omega
  ·by_cases h:x=0
   ·subst h;go_wp2;go_roundw
    case rel=>exact⟨1,by omega,rfl,(by show _->_;simp),fun h=>absurd h (by omega),hb⟩
    case measure=>simp[intOf]
   ·go_wp2;go_ret
    exact⟨rfl,hb⟩
  ·obtain rfl:=hx.out (by omega);by_cases h:y=0
   ·subst h;go_wp2;go_roundw
    case rel=>exact⟨2,by omega,rfl,(by show _->_;simp),(by show _->_;simp),hb⟩
    case measure=>simp[intOf]
   ·go_wp2;go_ret
    exact⟨rfl,hb⟩
  ·obtain rfl:=hx.out (by omega);obtain rfl:=hy.out (by omega);go_wp2;go_ret
   exact⟨rfl,hb⟩
theorem comparePlaces_any(af ap bf bp:Int)(w:World) :
  Calls Tryz.prog 156 #[.agg #[.int .i64 af,.int .i64 ap],.agg #[.int .i64 bf,.int .i64 bp]] w fun e w'=>e=.returned (.int .i64 (orI (cmpI af bf) (cmpI ap bp)))/\Below w.heap.size w w':=by
 obtain⟨wA,hwA⟩:∃wA,wA=(w.alloc (.cells #[.int .i64 af,.int .i64 ap] 195)).alloc (.cells #[.int .i64 bf,.int .i64 bp] 195):=⟨_,rfl⟩;have hbA:Below w.heap.size w wA:=by rw[hwA];exact (gM.alloc nL _).alloc (by simp) _
 have hX:wA.heap[w.heap.size]?=some (.cells #[.int .i64 af,.int .i64 ap] 195 (0,0)):=by rw[hwA];exact al (ah _ _ _) _
 have hY:wA.heap[w.heap.size+1]?=some (.cells #[.int .i64 bf,.int .i64 bp] 195 (0,0)):=by rw[hwA];simpa using ah (w.alloc (.cells #[.int .i64 af,.int .i64 ap] 195)) #[.int .i64 bf,.int .i64 bp] 195
 have hS:∀w',Below wA.heap.size wA w'->w'.cell? ⟨w.heap.size,0,none⟩=some (.int .i64 af)/\w'.cell? ⟨w.heap.size,1,none⟩=some (.int .i64 ap)/\w'.cell? ⟨w.heap.size+1,0,none⟩=some (.int .i64 bf)/\w'.cell? ⟨w.heap.size+1,1,none⟩=some (.int .i64 bp):=fun w' hb=>
  ⟨ckb hX hb rfl,ckb hX hb rfl,ckb hY hb rfl,ckb hY hb rfl⟩
 have HS:Hid (∀w',Below wA.heap.size wA w'->w'.cell? ⟨w.heap.size,0,none⟩=some (.int .i64 af)/\w'.cell? ⟨w.heap.size,1,none⟩=some (.int .i64 ap)/\w'.cell? ⟨w.heap.size+1,0,none⟩=some (.int .i64 bf)/\w'.cell? ⟨w.heap.size+1,1,none⟩=some (.int .i64 bp)):=hS;have q:Below wA.heap.size wA wA.drew:=gM.drew;have HB:Hid (Below w.heap.size w wA):=hbA;clear hS hX hY hbA;go_enter Tryz.func156,Tryz.ntmps156
 go_wp2;rw[<-hwA];clear hwA
 go_region_held3 (fun w'=>w'.cell? ⟨w.heap.size,0,none⟩=some (.int .i64 af)/\w'.cell? ⟨w.heap.size,1,none⟩=some (.int .i64 ap)/\w'.cell? ⟨w.heap.size+1,0,none⟩=some (.int .i64 bf)/\w'.cell? ⟨w.heap.size+1,1,none⟩=some (.int .i64 bp))
  ((refine HS.out _ ?_;first | exact q | exact Below.refl _ _ | exact (gM.alloc nL _).drew))
  (first
   | (go_at_call 183;refine (compare_any _ _ _).mono ?_;rintro e wb ⟨rfl,rfl⟩)
   | (go_at_call 182;refine (or_any (cmpI af bf) (cmpI ap bp) _ _ _ (by exact (eg wA #[.int .i64 (cmpI af bf),.int .i64 (cmpI ap bp)] 3 0).trans rfl) (by exact (eg wA #[.int .i64 (cmpI af bf),.int .i64 (cmpI ap bp)] 3 1).trans rfl)).mono ?_;rintro e w3 ⟨rfl,kd⟩;have q:=(((Below.refl wA.heap.size wA).alloc nL (.cells #[.int .i64 (cmpI af bf),.int .i64 (cmpI ap bp)] 3)).drew).trans (kd.mono (by simp))))
 go_wp2;go_ret
 exact⟨rfl,HB.out.trans (q.mono HB.out.size)⟩
theorem cmp_less(a b:Si):0<=orI (cmpI a.f b.f) (cmpI a.pc b.pc)↔¬a5 a b:=by
 unfold orI cmpI a5;repeat' split
 all_goals omega
end Go.Proofs.YtdlkbbgmjilccaaGreatDoor
