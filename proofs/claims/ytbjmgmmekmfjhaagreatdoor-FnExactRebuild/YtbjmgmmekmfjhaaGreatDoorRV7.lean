/- RV7 -/
import Derived.Test.YtbjmgmmekmfjhaaGreatDoorRV2
import Derived.Test.YtbjmgmmekmfjhaaGreatDoorRV5
import Derived.Test.YtbjmgmmekmfjhaaGreatDoorRV6
set_option maxHeartbeats 32000000
set_option maxRecDepth 100000
namespace Go.Proofs.YtbjmgmmekmfjhaaGreatDoor
open Go.RowKit
structure Sr where
 k:Int
 n:Int
 v:Vl
structure EF where
 fn:Int
 pc:Int
 locals:List Sr
 stack:List Sr
structure ER where
 fields:List Sr
structure Ex where
 kind:Int
 spec:Si
 frames:List EF
 recs:List ER
structure Fo where
 op:Int
 d:Int
 a:Int
 b:Int
 x:Int
 f:Int
 p:Int
 v:Vl
structure aR where
 fn:Int
 entry:Int
 vals:Int
 nums:Int
 ops:List Fo
 exits:List Ex
def LMax {α:Type}(p:α->Prop)(l:List α):Prop:=l.length<=maxLen/\∀x∈l,p x
def bj {α:Type}(p:α->Prop)(l:List α):Prop:=l.length<=1048576/\∀x∈l,p x
def gj (x:Sr):Prop:=x.v.s.size<=maxLen
def bQ (x:Sr):Prop:=x.v.s.size<=1048576
def gZ (x:EF):Prop:=LMax gj x.locals/\LMax gj x.stack
def cK (x:EF):Prop:=bj bQ x.locals/\bj bQ x.stack
def gK (x:ER):Prop:=LMax gj x.fields
def cU (x:ER):Prop:=bj bQ x.fields
def gS (x:Ex):Prop:=LMax gZ x.frames/\LMax gK x.recs
def cC (x:Ex):Prop:=bj cK x.frames/\bj cU x.recs
def gG (x:Fo):Prop:=x.v.s.size<=maxLen
def dx (x:Fo):Prop:=x.v.s.size<=1048576
def go (x:aR):Prop:=LMax gG x.ops/\LMax gS x.exits
def a8 (x:aR):Prop:=bj dx x.ops/\bj cC x.exits
def bD (w:World)(lo:Nat)(a:Option Addr)(xs:List Sr):Prop:=
 ∀i (h:i<xs.length),∃b off,a=some ⟨b,off,none⟩/\lo<=b/\w.cell? ⟨b,off+i*5,none⟩=some (.int .i64 xs[i].k)/\w.cell? ⟨b,off+i*5+1,none⟩=some (.int .i64 xs[i].n)/\w.cell? ⟨b,off+i*5+2,none⟩=some (.int .i64 xs[i].v.k)/\w.cell? ⟨b,off+i*5+3,none⟩=some (.int .i64 xs[i].v.n)/\w.cell? ⟨b,off+i*5+4,none⟩=some (.string xs[i].v.s)
theorem bD.mono{w w':World}{lo:Nat}{a:Option Addr}{xs:List Sr}(h:bD w lo a xs)(hb:Below w.heap.size w w'):bD w' lo a xs:=by
 intro i hi;obtain⟨b,off,e1,e2,h0,h1,h2,h3,h4⟩:=h i hi;exact⟨b,off,e1,e2,cell_later hb h0,cell_later hb h1,cell_later hb h2,cell_later hb h3,cell_later hb h4⟩
theorem bD.above{w w':World}{lo:Nat}{a:Option Addr}{xs:List Sr}(h:bD w lo a xs)(hb:aZ lo w w'):bD w' lo a xs:=by
 intro i hi;obtain⟨b,off,e1,e2,h0,h1,h2,h3,h4⟩:=h i hi;exact⟨b,off,e1,e2,hb.cell e2 h0,hb.cell e2 h1,hb.cell e2 h2,hb.cell e2 h3,hb.cell e2 h4⟩
theorem bD.low{w:World}{lo lo':Nat}{a:Option Addr}{xs:List Sr}(h:bD w lo a xs)(hl:lo'<=lo):bD w lo' a xs:=by
 intro i hi;obtain⟨b,off,e1,e2,h0,h1,h2,h3,h4⟩:=h i hi;exact⟨b,off,e1,by omega,h0,h1,h2,h3,h4⟩
def cg (w:World)(lo:Nat)(a:Option Addr)(xs:List EF):Prop:=
 ∀i (h:i<xs.length),∃b off a0 c0 a1 c1,a=some ⟨b,off,none⟩/\lo<=b/\w.cell? ⟨b,off+i*4,none⟩=some (.int .i64 xs[i].fn)/\w.cell? ⟨b,off+i*4+1,none⟩=some (.int .i64 xs[i].pc)/\w.cell? ⟨b,off+i*4+2,none⟩=some (.slice a0 xs[i].locals.length c0)/\w.cell? ⟨b,off+i*4+3,none⟩=some (.slice a1 xs[i].stack.length c1)/\bD w lo a0 xs[i].locals/\bD w lo a1 xs[i].stack
theorem cg.mono{w w':World}{lo:Nat}{a:Option Addr}{xs:List EF}(h:cg w lo a xs)(hb:Below w.heap.size w w'):cg w' lo a xs:=by
 intro i hi;obtain⟨b,off,a0,c0,a1,c1,e1,e2,h0,h1,h2,h3,p0,p1⟩:=h i hi;exact⟨b,off,a0,c0,a1,c1,e1,e2,cell_later hb h0,cell_later hb h1,cell_later hb h2,cell_later hb h3,p0.mono hb,p1.mono hb⟩
theorem cg.above{w w':World}{lo:Nat}{a:Option Addr}{xs:List EF}(h:cg w lo a xs)(hb:aZ lo w w'):cg w' lo a xs:=by
 intro i hi;obtain⟨b,off,a0,c0,a1,c1,e1,e2,h0,h1,h2,h3,p0,p1⟩:=h i hi;exact⟨b,off,a0,c0,a1,c1,e1,e2,hb.cell e2 h0,hb.cell e2 h1,hb.cell e2 h2,hb.cell e2 h3,p0.above hb,p1.above hb⟩
theorem cg.low{w:World}{lo lo':Nat}{a:Option Addr}{xs:List EF}(h:cg w lo a xs)(hl:lo'<=lo):cg w lo' a xs:=by
 intro i hi;obtain⟨b,off,a0,c0,a1,c1,e1,e2,h0,h1,h2,h3,p0,p1⟩:=h i hi;exact⟨b,off,a0,c0,a1,c1,e1,by omega,h0,h1,h2,h3,p0.low hl,p1.low hl⟩
def cj (w:World)(lo:Nat)(a:Option Addr)(xs:List ER):Prop:=
 ∀i (h:i<xs.length),∃b off a0 c0,a=some ⟨b,off,none⟩/\lo<=b/\w.cell? ⟨b,off+i,none⟩=some (.slice a0 xs[i].fields.length c0)/\bD w lo a0 xs[i].fields
theorem cj.mono{w w':World}{lo:Nat}{a:Option Addr}{xs:List ER}(h:cj w lo a xs)(hb:Below w.heap.size w w'):cj w' lo a xs:=by
 intro i hi;obtain⟨b,off,a0,c0,e1,e2,h0,p0⟩:=h i hi;exact⟨b,off,a0,c0,e1,e2,cell_later hb h0,p0.mono hb⟩
theorem cj.above{w w':World}{lo:Nat}{a:Option Addr}{xs:List ER}(h:cj w lo a xs)(hb:aZ lo w w'):cj w' lo a xs:=by
 intro i hi;obtain⟨b,off,a0,c0,e1,e2,h0,p0⟩:=h i hi;exact⟨b,off,a0,c0,e1,e2,hb.cell e2 h0,p0.above hb⟩
theorem cj.low{w:World}{lo lo':Nat}{a:Option Addr}{xs:List ER}(h:cj w lo a xs)(hl:lo'<=lo):cj w lo' a xs:=by
 intro i hi;obtain⟨b,off,a0,c0,e1,e2,h0,p0⟩:=h i hi;exact⟨b,off,a0,c0,e1,by omega,h0,p0.low hl⟩
def cZ (w:World)(lo:Nat)(a:Option Addr)(xs:List Ex):Prop:=
 ∀i (h:i<xs.length),∃b off a0 c0 a1 c1,a=some ⟨b,off,none⟩/\lo<=b/\w.cell? ⟨b,off+i*7,none⟩=some (.int .i64 xs[i].kind)/\w.cell? ⟨b,off+i*7+1,none⟩=some (.int .i64 xs[i].spec.f)/\w.cell? ⟨b,off+i*7+2,none⟩=some (.int .i64 xs[i].spec.pc)/\w.cell? ⟨b,off+i*7+3,none⟩=some (.int .i64 xs[i].spec.seen)/\w.cell? ⟨b,off+i*7+4,none⟩=some (.int .i64 xs[i].spec.target)/\w.cell? ⟨b,off+i*7+5,none⟩=some (.slice a0 xs[i].frames.length c0)/\w.cell? ⟨b,off+i*7+6,none⟩=some (.slice a1 xs[i].recs.length c1)/\cg w lo a0 xs[i].frames/\cj w lo a1 xs[i].recs
theorem cZ.mono{w w':World}{lo:Nat}{a:Option Addr}{xs:List Ex}(h:cZ w lo a xs)(hb:Below w.heap.size w w'):cZ w' lo a xs:=by
 intro i hi;obtain⟨b,off,a0,c0,a1,c1,e1,e2,h0,h1,h2,h3,h4,h5,h6,p0,p1⟩:=h i hi;exact⟨b,off,a0,c0,a1,c1,e1,e2,cell_later hb h0,cell_later hb h1,cell_later hb h2,cell_later hb h3,cell_later hb h4,cell_later hb h5,cell_later hb h6,p0.mono hb,p1.mono hb⟩
theorem cZ.above{w w':World}{lo:Nat}{a:Option Addr}{xs:List Ex}(h:cZ w lo a xs)(hb:aZ lo w w'):cZ w' lo a xs:=by
 intro i hi;obtain⟨b,off,a0,c0,a1,c1,e1,e2,h0,h1,h2,h3,h4,h5,h6,p0,p1⟩:=h i hi;exact⟨b,off,a0,c0,a1,c1,e1,e2,hb.cell e2 h0,hb.cell e2 h1,hb.cell e2 h2,hb.cell e2 h3,hb.cell e2 h4,hb.cell e2 h5,hb.cell e2 h6,p0.above hb,p1.above hb⟩
theorem cZ.low{w:World}{lo lo':Nat}{a:Option Addr}{xs:List Ex}(h:cZ w lo a xs)(hl:lo'<=lo):cZ w lo' a xs:=by
 intro i hi;obtain⟨b,off,a0,c0,a1,c1,e1,e2,h0,h1,h2,h3,h4,h5,h6,p0,p1⟩:=h i hi;exact⟨b,off,a0,c0,a1,c1,e1,by omega,h0,h1,h2,h3,h4,h5,h6,p0.low hl,p1.low hl⟩
def cV (w:World)(lo:Nat)(a:Option Addr)(xs:List Fo):Prop:=
 ∀i (h:i<xs.length),∃b off,a=some ⟨b,off,none⟩/\lo<=b/\w.cell? ⟨b,off+i*10,none⟩=some (.int .i64 xs[i].op)/\w.cell? ⟨b,off+i*10+1,none⟩=some (.int .i64 xs[i].d)/\w.cell? ⟨b,off+i*10+2,none⟩=some (.int .i64 xs[i].a)/\w.cell? ⟨b,off+i*10+3,none⟩=some (.int .i64 xs[i].b)/\w.cell? ⟨b,off+i*10+4,none⟩=some (.int .i64 xs[i].x)/\w.cell? ⟨b,off+i*10+5,none⟩=some (.int .i64 xs[i].f)/\w.cell? ⟨b,off+i*10+6,none⟩=some (.int .i64 xs[i].p)/\w.cell? ⟨b,off+i*10+7,none⟩=some (.int .i64 xs[i].v.k)/\w.cell? ⟨b,off+i*10+8,none⟩=some (.int .i64 xs[i].v.n)/\w.cell? ⟨b,off+i*10+9,none⟩=some (.string xs[i].v.s)
theorem cV.mono{w w':World}{lo:Nat}{a:Option Addr}{xs:List Fo}(h:cV w lo a xs)(hb:Below w.heap.size w w'):cV w' lo a xs:=by
 intro i hi;obtain⟨b,off,e1,e2,h0,h1,h2,h3,h4,h5,h6,h7,h8,h9⟩:=h i hi;exact⟨b,off,e1,e2,cell_later hb h0,cell_later hb h1,cell_later hb h2,cell_later hb h3,cell_later hb h4,cell_later hb h5,cell_later hb h6,cell_later hb h7,cell_later hb h8,cell_later hb h9⟩
theorem cV.above{w w':World}{lo:Nat}{a:Option Addr}{xs:List Fo}(h:cV w lo a xs)(hb:aZ lo w w'):cV w' lo a xs:=by
 intro i hi;obtain⟨b,off,e1,e2,h0,h1,h2,h3,h4,h5,h6,h7,h8,h9⟩:=h i hi;exact⟨b,off,e1,e2,hb.cell e2 h0,hb.cell e2 h1,hb.cell e2 h2,hb.cell e2 h3,hb.cell e2 h4,hb.cell e2 h5,hb.cell e2 h6,hb.cell e2 h7,hb.cell e2 h8,hb.cell e2 h9⟩
theorem cV.low{w:World}{lo lo':Nat}{a:Option Addr}{xs:List Fo}(h:cV w lo a xs)(hl:lo'<=lo):cV w lo' a xs:=by
 intro i hi;obtain⟨b,off,e1,e2,h0,h1,h2,h3,h4,h5,h6,h7,h8,h9⟩:=h i hi;exact⟨b,off,e1,by omega,h0,h1,h2,h3,h4,h5,h6,h7,h8,h9⟩
def aK (oa ea:Option Addr)(oc ec:Nat)(d:aR):Array Value:=#[.int .i64 d.fn,.int .i64 d.entry,.int .i64 d.vals,.int .i64 d.nums,.slice oa d.ops.length oc,.slice ea d.exits.length ec]
structure br (w:World)(lo:Nat)(oa ea:Option Addr)(d:aR):Prop where
 ops:cV w lo oa d.ops
 exits:cZ w lo ea d.exits
theorem br.mono{w w':World}{lo:Nat}{oa ea:Option Addr}{d:aR}(h:br w lo oa ea d)(hb:Below w.heap.size w w'):br w' lo oa ea d:=⟨h.ops.mono hb,h.exits.mono hb⟩
theorem br.low{w:World}{lo lo':Nat}{oa ea:Option Addr}{d:aR}(h:br w lo oa ea d)(hl:lo'<=lo):br w lo' oa ea d:=⟨h.ops.low hl,h.exits.low hl⟩
section
variable {a1 a2:Option Addr} {nt c1 c2:Nat} {fs:List Fn} {s:Si} {w:World}
end
def du (fs:List Fn)(t:Int)(n:Int):Prop:=0<=t/\∃(h:t.toNat<fs.length),fs[t.toNat].params=n
def dP (fs:List Fn)(f p t:Int)(r:Option Si):Prop:=
 (11<=((insD fs f p).getD (0,0)).1/\((insD fs f p).getD (0,0)).1<=14/\r=some ⟨f,p,1,0⟩) \/
 (((insD fs f p).getD (0,0)).1=23/\du fs t ((insD fs f p).getD (0,0)).2/\r=some ⟨f,p,2,t⟩) \/
 (¬(11<=((insD fs f p).getD (0,0)).1/\((insD fs f p).getD (0,0)).1<=14)/\¬(((insD fs f p).getD (0,0)).1=23/\du fs t ((insD fs f p).getD (0,0)).2)/\r=none)
theorem guessD_one{fs:List Fn}{f p t:Int}{r r':Option Si}(h:dP fs f p t r)(h':dP fs f p t r'):r=r':=by
 unfold dP at h h';rcases h with ⟨x1,x2,x3⟩ | ⟨x1,x2,x3⟩ | ⟨x1,x2,x3⟩<;>rcases h' with ⟨y1,y2,y3⟩ | ⟨y1,y2,y3⟩ | ⟨y1,y2,y3⟩<;>first | (rw[x3,y3];done) | (exfalso;omega) | (exfalso;exact y1 ⟨x1,x2⟩) | (exfalso;exact x1 ⟨y1,y2⟩) | (exfalso;exact y2 ⟨x1,x2⟩) | (exfalso;exact x2 ⟨y1,y2⟩)
def gP (fs:List Fn)(f p t:Int)(w:World)(e:Ending)(w':World):Prop:=∃r,dP fs f p t r/\e=.returned (.tuple #[.agg (r.getD ⟨0,0,0,0⟩).cells,.bool r.isSome])/\Below w.heap.size w w'
theorem guessAt_any(a1 a2:Option Addr)(nt c1 c2:Nat)(fs:List Fn)(f p t:Int)(w:World)(hc:∀f∈fs,f.code.length<=1048576)(hm:FnsAt w 0 a2 fs) :
  Calls Tryz.prog 289 #[.agg #[.slice a1 nt c1,.slice a2 fs.length c2],.agg #[.int .i64 f,.int .i64 p],.int .i64 t] w (gP fs f p t w):=by
 obtain⟨w0,hw0⟩:∃w0,w0=((w.alloc (.cells #[.slice a1 nt c1,.slice a2 fs.length c2] 36)).alloc (.cells #[.int .i64 f,.int .i64 p] 182)).alloc (.cells #[.int .i64 0,.int .i64 0,.int .i64 0,.int .i64 0] 97):=⟨_,rfl⟩;have hB:Below w.heap.size w w0:=by rw[hw0];exact ((b_r.alloc n_l _).alloc (by simp) _).alloc (by simp;omega) _
 have hX:w0.heap[w.heap.size]?=some (.cells #[.slice a1 nt c1,.slice a2 fs.length c2] 36 (0,0)):=by rw[hw0];exact au (au (al _ _ _) _) _
 have hY:w0.heap[w.heap.size+1]?=some (.cells #[.int .i64 f,.int .i64 p] 182 (0,0)):=by rw[hw0];exact au (by simpa using al (w.alloc (.cells #[.slice a1 nt c1,.slice a2 fs.length c2] 36)) #[.int .i64 f,.int .i64 p] 182) _
 have hR:w0.heap[w.heap.size+1+1]?=some (.cells #[.int .i64 0,.int .i64 0,.int .i64 0,.int .i64 0] 97 (0,0)):=by rw[hw0];simpa using al ((w.alloc (.cells #[.slice a1 nt c1,.slice a2 fs.length c2] 36)).alloc (.cells #[.int .i64 f,.int .i64 p] 182)) #[.int .i64 0,.int .i64 0,.int .i64 0,.int .i64 0] 97
 obtain⟨op,hop⟩:∃op,op=((insD fs f p).getD (0,0)).1:=⟨_,rfl⟩;obtain⟨ar,har⟩:∃ar,ar=((insD fs f p).getD (0,0)).2:=⟨_,rfl⟩;have hI:=insAt_any a1 a2 nt c1 c2 fs f p w0 hc (hm.mono hB);have HP:Hid (∀e w',((11<=op/\op<=14->e=.returned (.tuple #[.agg #[.int .i64 f,.int .i64 p,.int .i64 1,.int .i64 0],.bool true]))/\(op=23/\du fs t ar->e=.returned (.tuple #[.agg #[.int .i64 f,.int .i64 p,.int .i64 2,.int .i64 t],.bool true]))/\(¬(11<=op/\op<=14)->¬(op=23/\du fs t ar)->e=.returned (.tuple #[.agg #[.int .i64 0,.int .i64 0,.int .i64 0,.int .i64 0],.bool false]))/\Below w.heap.size w w')->gP fs f p t w e w'):=by
  show ∀e w',_->_
  rintro e w' ⟨h1,h2,h3,h4⟩;rw[hop] at h1;rw[hop,har] at h2 h3;by_cases x:11<=((insD fs f p).getD (0,0)).1/\((insD fs f p).getD (0,0)).1<=14
  ·exact⟨_,.inl ⟨x.1,x.2,rfl⟩,h1 x,h4⟩
  ·by_cases y:((insD fs f p).getD (0,0)).1=23/\du fs t ((insD fs f p).getD (0,0)).2
   ·exact⟨_,.inr (.inl ⟨y.1,y.2,rfl⟩),h2 y,h4⟩
   ·exact⟨_,.inr (.inr ⟨x,y,rfl⟩),h3 x y,h4⟩
 rw[<-hop,<-har] at hI;clear hop har;go_enter Tryz.func289,Tryz.ntmps289
 go_wp2_with fail
 rw[<-hw0];clear hw0;refine hI.mono ?_;rintro e w1 ⟨rfl,hb1⟩;clear hI;have hb2:Below w1.heap.size w1 (w1.alloc (.cells #[.int .i64 op,.int .i64 ar] 263)):=b_r.alloc n_l _;have hV3:=al w1 #[.int .i64 op,.int .i64 ar] 263;have hb3:=hb1.trans (hb2.mono hb1.size);have hX3:=ah hX hb3;have hY3:=ah hY hb3;have hR3:=ah hR hb3;have HB3:Hid (Below w.heap.size w (w1.alloc (.cells #[.int .i64 op,.int .i64 ar] 263))):=hB.trans (hb3.mono hB.size);have hm3:=hm.mono HB3.out;have HZ1:Hid (w0.heap.size<=w1.heap.size):=hb1.size;obtain⟨w3,hw3⟩:∃w3,w3=w1.alloc (.cells #[.int .i64 op,.int .i64 ar] 263):=⟨_,rfl⟩;rw[<-hw3] at hV3 hX3 hY3 hR3 HB3 hm3;have v1:=ae hV3;have x1:=ae hX3;have y1:=ae hY3;have z1:=ae hR3;have z2:=aq hR3;clear hb1 hb2 hb3 hX hY hR hB hV3 hX3 hY3 hm;go_upto_region 2 with fail
 rw[<-hw3];clear hw3;by_cases h6:11<=op/\op<=14
 ·have H6:Hid (11<=op/\op<=14):=h6;have HN5:Hid (op≠23):=by show op≠23;omega
  clear h6;go_wp2_with (go_at_call 297;refine (numberOp_yes H6.out _).mono ?_;rintro e w' ⟨rfl,rfl⟩)
  refine bodyPost_ret (v:=.tuple #[.agg #[.int .i64 f,.int .i64 p,.int .i64 1,.int .i64 0],.bool true]) (by simp[results,Tryz.results289,go_sem,z1]) rfl (HP.out _ _ ⟨fun _=>rfl,fun h=>absurd h.1 HN5.out,fun h=>absurd H6.out h,?_⟩);repeat (first | refine Below.setCell ?_ (by first | omega | (simp;omega) | simp) _ | with_reducible exact HB3.out | exact aF HB3.out _)
 have H6:Hid (¬(11<=op/\op<=14)):=h6;clear h6;go_wp2_with (go_at_call 297;refine (numberOp_no H6.out _).mono ?_;rintro e w' ⟨rfl,rfl⟩)
 by_cases h5:op=23
 case neg=>
  have HNT:Hid (¬(op=23/\du fs t ar)):=fun h=>h5 h.1
  have k5:(op == 23)=false:=by simpa using h5
  go_big_quiet (fail)
  go_wp2;refine bodyPost_ret (v:=.tuple #[.agg #[.int .i64 0,.int .i64 0,.int .i64 0,.int .i64 0],.bool false]) (by simp[results,Tryz.results289,go_sem,z1]) rfl (HP.out _ _ ⟨fun h=>absurd h H6.out,fun h=>absurd h HNT.out,fun _ _=>rfl,?_⟩);repeat (first | refine Below.setCell ?_ (by first | omega | (simp;omega) | simp) _ | with_reducible exact HB3.out | exact aF HB3.out _)
 subst h5;by_cases h7:0<=t
 case neg=>
  have HNT:Hid (¬((23:Int)=23/\du fs t ar)):=fun h=>h7 h.2.1
  go_big_quiet (fail)
  go_wp2;refine bodyPost_ret (v:=.tuple #[.agg #[.int .i64 0,.int .i64 0,.int .i64 0,.int .i64 0],.bool false]) (by simp[results,Tryz.results289,go_sem,z1]) rfl (HP.out _ _ ⟨fun h=>absurd h H6.out,fun h=>absurd h HNT.out,fun _ _=>rfl,?_⟩);repeat (first | refine Below.setCell ?_ (by first | omega | (simp;omega) | simp) _ | with_reducible exact HB3.out | exact aF HB3.out _)
 obtain⟨t,rfl⟩:∃t':Nat,t=t':=⟨t.toNat,by omega⟩;by_cases h8:t<fs.length
 case neg=>
  have HNT:Hid (¬((23:Int)=23/\du fs t ar)):=fun h=>by obtain⟨-,-,hf,-⟩:=h;simp at hf;omega
  have g1:(0:Int)<=(t:Int):=by omega
  have g2:(fs.length:Int)<=(t:Int):=by omega
  go_big_quiet (fail)
  go_wp2;refine bodyPost_ret (v:=.tuple #[.agg #[.int .i64 0,.int .i64 0,.int .i64 0,.int .i64 0],.bool false]) (by simp[results,Tryz.results289,go_sem,z1]) rfl (HP.out _ _ ⟨fun h=>absurd h H6.out,fun h=>absurd h HNT.out,fun _ _=>rfl,?_⟩);repeat (first | refine Below.setCell ?_ (by first | omega | (simp;omega) | simp) _ | with_reducible exact HB3.out | exact aF HB3.out _)
 obtain⟨b,off,ca,cc,rfl,-,d1,d2,d3,-⟩:=hm3 t h8;clear d2 d3;obtain⟨pr,hpr⟩:∃pr,pr=fs[t].params:=⟨_,rfl⟩;rw[<-hpr] at d1;have HPR:Hid (du fs t ar↔pr=ar):=by
  show _↔_
  rw[hpr];exact⟨fun h=>by obtain⟨-,hf,he⟩:=h;simpa using he,fun h=>⟨by omega,by simpa using h8,by simpa using h⟩⟩
 clear hpr;by_cases h9:pr=ar
 ·subst h9;have HT:Hid (du fs t pr):=HPR.out.2 rfl;have g1:(0:Int)<=(t:Int):=by omega
  have g2:¬(fs.length:Int)<=(t:Int):=by omega
  go_big_quiet (fail)
  go_wp2;refine bodyPost_ret (v:=.tuple #[.agg #[.int .i64 f,.int .i64 p,.int .i64 2,.int .i64 t],.bool true]) (by simp[results,Tryz.results289,go_sem,z1]) rfl (HP.out _ _ ⟨fun h=>absurd h H6.out,fun _=>rfl,fun _ h=>absurd (by first | exact⟨rfl,HT.out⟩ | exact⟨trivial,HT.out⟩) h,?_⟩)
  repeat (first | refine Below.setCell ?_ (by first | omega | (simp;omega) | simp) _ | with_reducible exact HB3.out | exact aF HB3.out _)
 ·have HNT:Hid (¬((23:Int)=23/\du fs t ar)):=fun h=>h9 (HPR.out.1 h.2)
  have g1:(0:Int)<=(t:Int):=by omega
  have g2:¬(fs.length:Int)<=(t:Int):=by omega
  go_big_quiet (fail)
  go_wp2;refine bodyPost_ret (v:=.tuple #[.agg #[.int .i64 0,.int .i64 0,.int .i64 0,.int .i64 0],.bool false]) (by simp[results,Tryz.results289,go_sem,z1]) rfl (HP.out _ _ ⟨fun h=>absurd h H6.out,fun h=>absurd h HNT.out,fun _ _=>rfl,?_⟩);repeat (first | refine Below.setCell ?_ (by first | omega | (simp;omega) | simp) _ | with_reducible exact HB3.out | exact aF HB3.out _)
theorem gO{op:Int}(h:11<=op/\op<=14\/op=23)(w:World):Calls Tryz.prog 259 #[.int .i64 op] w fun e w'=>e=.returned (.bool true)/\w'=w:=by
 have:=is_any op w;rwa [decide_eq_true h] at this
theorem is_no{op:Int}(h:¬(11<=op/\op<=14\/op=23))(w:World):Calls Tryz.prog 259 #[.int .i64 op] w fun e w'=>e=.returned (.bool false)/\w'=w:=by
 have:=is_any op w;rwa [decide_eq_false h] at this
theorem dY{n lo hi:Int}(h:lo<=n/\n<=hi)(w:World):Calls Tryz.prog 72 #[.int .i64 n,.int .i64 lo,.int .i64 hi] w fun e w'=>e=.returned (.bool true)/\w'=w:=by
 have:=aO n lo hi w;rwa [decide_eq_true h.1,decide_eq_true h.2] at this
theorem eC{n lo hi:Int}(h:¬(lo<=n/\n<=hi))(w:World):Calls Tryz.prog 72 #[.int .i64 n,.int .i64 lo,.int .i64 hi] w fun e w'=>e=.returned (.bool false)/\w'=w:=by
 have:=aO n lo hi w;rwa [<-Bool.decide_and,decide_eq_false h] at this
theorem funcOk_any(a1 a2:Option Addr)(nt c1 c2:Nat)(fs:List Fn)(f:Nat)(w:World)(hf:f<fs.length)(hm:FnsAt w 0 a2 fs)(hck:fs[f].code.length<=1048576) :
  Calls Tryz.prog 213 #[.agg #[.slice a1 nt c1,.slice a2 fs.length c2],.int .i64 f] w fun e w'=>e=.returned (.bool (fnB nt fs.length fs[f]))/\Below w.heap.size w w':=by
 obtain⟨b,off,ca,cc,rfl,-,d1,d2,d3,d4⟩:=hm f hf;have n1:=World.block_lt_of_cell? _ _ d1;simp only at n1
 by_cases hh:0<=fs[f].params/\fs[f].params<=6/\fs[f].params<=fs[f].locals/\fs[f].locals<=12/\1<=fs[f].code.length/\fs[f].code.length<=120
 ·have HF:Hid (fnB nt fs.length fs[f]=fs[f].code.all fun x=>insB nt fs.length fs[f].locals fs[f].code.length x.1 x.2):=fnB_all hh;obtain⟨g1,g2,g3,g4,g5,g6⟩:=hh;go_enter Tryz.func213,Tryz.ntmps213
  go_wp2;have hM0:=au (al w #[.slice a1 nt c1,.slice (some ⟨b,off,none⟩) fs.length c2] 36) (.cells #[.int .i64 fs[f].params,.int .i64 fs[f].locals,.slice ca fs[f].code.length cc] 160);have hbA:Below w.heap.size w ((w.alloc (.cells #[.slice a1 nt c1,.slice (some ⟨b,off,none⟩) fs.length c2] 36)).alloc (.cells #[.int .i64 fs[f].params,.int .i64 fs[f].locals,.slice ca fs[f].code.length cc] 160)):=(b_r.alloc n_l _).alloc (by simp) _;clear d1 d2 d3;go_loopw [46] (fun i wr=>∃(k:Nat),k<=fs[f].code.length/\i=.int .i64 k/\(fs[f].code.take k).all (fun x=>insB nt fs.length fs[f].locals fs[f].code.length x.1 x.2)=true/\wr.heap[w.heap.size]?=some (.cells #[.slice a1 nt c1,.slice (some ⟨b,off,none⟩) fs.length c2] 36 (0,0))/\Below w.heap.size w wr) (fun i _=>fs[f].code.length-(intOf i).toNat)
  case atStart=>exact⟨0,by omega,rfl,by simp,hM0,hbA⟩
  case round=>
   obtain⟨k,hk,rfl,hall,hM,hb⟩:=hrel;clear hM0 hbA;by_cases hlt:k<fs[f].code.length
   ·obtain⟨cb,co,rfl,-,e1,e2⟩:=d4 k hlt;have e1':=cell_later hb e1;have e2':=cell_later hb e2;have x1:=ae hM;have hsz:=ay hM;clear e1 e2;go_wp2_with fail
    have hbx:Below w.heap.size w (wr.alloc (.cells #[.int .i64 fs[f].code[k].1,.int .i64 fs[f].code[k].2] 263)):=hb.alloc (by omega) _;refine (iInsOk_any a1 _ nt c1 c2 fs f _ _ _ hf (hm.mono hbx)).mono ?_;rintro e w2 ⟨rfl,hb2⟩;have hM2:=ah (au hM (.cells #[.int .i64 fs[f].code[k].1,.int .i64 fs[f].code[k].2] 263)) hb2;have hb3:Below w.heap.size w w2:=hbx.trans (hb2.mono (by simp;omega));clear x1 e1' e2' hbx hb2;by_cases hi:insB nt fs.length fs[f].locals fs[f].code.length fs[f].code[k].1 fs[f].code[k].2=true
    ·go_wp2;go_roundw
     case rel=>exact⟨k+1,by omega,by go_num,b8 hlt hall hi,hM2,hb3⟩
     case measure=>simp[intOf];omega
    ·have hi':insB nt fs.length fs[f].locals fs[f].code.length fs[f].code[k].1 fs[f].code[k].2=false:=by simpa using hi
     have hno:fnB nt fs.length fs[f]=false:=by rw[HF.out];exact cT (p:=fun x=>insB nt fs.length fs[f].locals fs[f].code.length x.1 x.2) hlt hi'
     have HN:Hid (fnB nt fs.length fs[f]=false):=hno;clear hno hi;go_wp2;go_ret
     exact⟨ax HN.out.symm,hb3⟩
   ·go_wp2;go_ret
    exact⟨ax (by rw[HF.out];exact (cD (by omega) hall).symm),hb⟩
 ·have HF:Hid (fnB nt fs.length fs[f]=false):=fnB_no hh
  rcases (show fs[f].params<0\/(0<=fs[f].params/\6<fs[f].params)\/(0<=fs[f].params/\fs[f].params<=6/\fs[f].locals<fs[f].params)\/(0<=fs[f].params/\fs[f].params<=6/\fs[f].params<=fs[f].locals/\12<fs[f].locals) \/
   (0<=fs[f].params/\fs[f].params<=6/\fs[f].params<=fs[f].locals/\fs[f].locals<=12/\(fs[f].code.length:Int)<1)\/(0<=fs[f].params/\fs[f].params<=6/\fs[f].params<=fs[f].locals/\fs[f].locals<=12/\1<=(fs[f].code.length:Int)/\120<(fs[f].code.length:Int)) by omega) with h | ⟨h,h2⟩ | ⟨h,h2,h3⟩ | ⟨h,h2,h3,h4⟩ | ⟨h,h2,h3,h4,h5⟩ | ⟨h,h2,h3,h4,h5,h6⟩
  all_goals
   clear hh;go_enter Tryz.func213,Tryz.ntmps213
   go_wp2;go_ret
   exact⟨ax HF.out.symm,(b_r.alloc n_l _).alloc (by simp) _⟩
theorem iModuleOk_any(a1 a2:Option Addr)(ts:List ByteArray)(fs:List Fn)(c1 c2:Nat)(w:World)(hs:dm ts fs)(hm:bc w 0 a1 ts)(hf:FnsAt w 0 a2 fs) :
  Calls Tryz.prog 157 #[.agg #[.slice a1 ts.length c1,.slice a2 fs.length c2]] w fun e w'=>e=.returned (.bool (modB ts fs))/\Below w.heap.size w w':=by
 have s1:=hs.texts;have s2:=hs.funcs;by_cases hh:1<=fs.length/\fs.length<=12/\ts.length<=20
 ·have HF:Hid (modB ts fs=(ts.all ck && fs.all fun f=>fnB ts.length fs.length f)):=modB_all hh;obtain⟨g1,g2,g3⟩:=hh;have hbA:Below w.heap.size w (w.alloc (.cells #[.slice a1 ts.length c1,.slice a2 fs.length c2] 36)):=b_r.alloc n_l _;have hM0:=al w #[.slice a1 ts.length c1,.slice a2 fs.length c2] 36;go_enter Tryz.func157,Tryz.ntmps157
  go_wp2;go_loop [25] (fun i=>∃(k:Nat),k<=ts.length/\i=.int .i64 k/\(ts.take k).all ck=true) (fun i=>ts.length-(intOf i).toNat)
  case atStart=>exact⟨0,by omega,rfl,by simp⟩
  case round=>
   obtain⟨k,hk,rfl,hall⟩:=hrel;by_cases hlt:k<ts.length
   ·obtain⟨b,off,rfl,-,e1⟩:=hm k hlt;have e1':=cell_later hbA e1;have hts:=hs.text ts[k] (g_m hlt);clear e1 hM0;by_cases hi:ck ts[k]=true
    ·go_wp2_with (go_at_call 192;refine (eL _ _ hts).mono ?_;rintro e w' ⟨rfl,rfl⟩)
     go_round
     case rel=>exact⟨k+1,by omega,by go_num,b8 hlt hall hi⟩
     case measure=>simp[intOf];omega
    ·have hi':ck ts[k]=false:=by simpa using hi
     have HN:Hid (modB ts fs=false):=by rw[HF.out,cT hlt hi'];rfl
     clear hi;go_wp2_with (go_at_call 192;refine (eL _ _ hts).mono ?_;rintro e w' ⟨rfl,rfl⟩)
     go_ret
     exact⟨ax HN.out.symm,hbA⟩
   ·have hall2:ts.all ck=true:=cD (by omega) hall;have HF2:Hid (modB ts fs=fs.all fun f=>fnB ts.length fs.length f):=by rw[HF.out,hall2];rfl
    clear hall hall2;go_wp2;go_loopw [36] (fun i wr=>∃(k:Nat),k<=fs.length/\i=.int .i64 k/\(fs.take k).all (fun f=>fnB ts.length fs.length f)=true/\wr.heap[w.heap.size]?=some (.cells #[.slice a1 ts.length c1,.slice a2 fs.length c2] 36 (0,0))/\Below w.heap.size w wr) (fun i _=>fs.length-(intOf i).toNat)
    case atStart=>exact⟨0,by omega,rfl,by simp,hM0,hbA⟩
    case round=>
     obtain⟨q,hq,rfl,hallf,hM,hb⟩:=hrel;clear hM0;by_cases hlq:q<fs.length
     ·have x1:=ae hM;have hcq:=hs.code fs[q] (g_m hlq);go_wp2_with fail
      refine (funcOk_any a1 a2 ts.length c1 c2 fs q _ hlq (hf.mono hb) hcq).mono ?_;rintro e w2 ⟨rfl,hb2⟩;have hM2:=ah hM hb2;have hb3:Below w.heap.size w w2:=hb.trans (hb2.mono hb.size);clear x1 hb2;by_cases hi:fnB ts.length fs.length fs[q]=true
      ·go_wp2;go_roundw
       case rel=>exact⟨q+1,by omega,by go_num,b8 (p:=fun f=>fnB ts.length fs.length f) hlq hallf hi,hM2,hb3⟩
       case measure=>simp[intOf];omega
      ·have hi':fnB ts.length fs.length fs[q]=false:=by simpa using hi
       have HN:Hid (modB ts fs=false):=by rw[HF2.out];exact cT (p:=fun f=>fnB ts.length fs.length f) hlq hi'
       clear hi;go_wp2;go_ret
       exact⟨ax HN.out.symm,hb3⟩
     ·go_wp2;go_ret
      exact⟨ax (by rw[HF2.out];exact (cD (by omega) hallf).symm),hb⟩
 ·have HF:Hid (modB ts fs=false):=modB_no hh;rcases (show 20<(ts.length:Int)\/((ts.length:Int)<=20/\(fs.length:Int)<1)\/((ts.length:Int)<=20/\1<=(fs.length:Int)/\12<(fs.length:Int)) by omega) with h | ⟨h,h2⟩ | ⟨h,h2,h3⟩
  all_goals
   clear hh;go_enter Tryz.func157,Tryz.ntmps157
   go_wp2;go_ret
   exact⟨ax HF.out.symm,b_r.alloc n_l _⟩
end Go.Proofs.YtbjmgmmekmfjhaaGreatDoor
