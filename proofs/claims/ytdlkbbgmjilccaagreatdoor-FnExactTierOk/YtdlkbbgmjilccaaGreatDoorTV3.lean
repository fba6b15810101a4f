/- TV3 -/
import Derived.Test.YtdlkbbgmjilccaaGreatDoorTV2
set_option maxHeartbeats 32000000
set_option maxRecDepth 100000
namespace Go.Proofs.YtdlkbbgmjilccaaGreatDoor
open Go.RowKit
def bw (s:Nat×Nat)(k:Nat):Nat×Nat:=if k<64 then (s.1 ||| 2 ^ k,s.2) else (s.1,s.2 ||| 2 ^ (k-64))
def bhas (s:Nat×Nat)(k:Nat):Bool:=if k<64 then s.1.testBit k else s.2.testBit (k-64)
def bok (s:Nat×Nat):Prop:=s.1<2 ^ 64/\s.2<2 ^ 64
def bv (s:Nat×Nat):Value:=.agg #[.int .u64 (s.1:Int),.int .u64 (s.2:Int)]
theorem fQ{s:Nat×Nat}{k:Nat}(h:bok s)(hk:k<128):bok (bw s k):=by
 unfold bw;split
 ·exact⟨Nat.or_lt_two_pow h.1 (Nat.pow_lt_pow_right (by decide) (by omega)),h.2⟩
 ·exact⟨h.1,Nat.or_lt_two_pow h.2 (Nat.pow_lt_pow_right (by decide) (by omega))⟩
theorem dO{s:Nat×Nat}{k j:Nat}(_:k<128)(_:j<128):bhas (bw s k) j=(bhas s j || decide (k=j)):=by
 unfold bw bhas;by_cases h:k<64
 ·rw[if_pos h];by_cases h2:j<64
  ·simp only[if_pos h2,Nat.testBit_or,Nat.testBit_two_pow]
  ·simp only[if_neg h2]
   rw[decide_eq_false (by omega),Bool.or_false]
 ·rw[if_neg h];by_cases h2:j<64
  ·simp only[if_pos h2]
   rw[decide_eq_false (by omega),Bool.or_false]
  ·simp only[if_neg h2,Nat.testBit_or,Nat.testBit_two_pow]
   congr 1
   apply decide_eq_decide.2
   omega
theorem bhas_zero(j:Nat):bhas (0,0) j=false:=by simp[bhas]
theorem eA{a:Nat}(h:a<2 ^ 64):IntKind.u64.wrap (a:Int)=(a:Int):=by
 rw[IntKind.wrap_u64];have h':a<18446744073709551616:=h;omega
theorem wrap_pow{k:Nat}(h:k<64):IntKind.u64.wrap (2 ^ k)=((2 ^ k:Nat):Int):=by
 have:=eA (a:=2 ^ k) (Nat.pow_lt_pow_right (by decide) h);push_cast at this ⊢
 exact this
theorem bits_or{a b:Nat}(ha:a<2 ^ 64)(hb:b<2 ^ 64):bits .or .u64 (a:Int) (b:Int)=((a ||| b:Nat):Int):=by
 have hlt:=Nat.or_lt_two_pow ha hb;simp only[bits]
 show IntKind.u64.wrap (((BitVec.ofInt 64 (a:Int)) ||| (BitVec.ofInt 64 (b:Int))).toNat:Int)=_
 rw[BitVec.ofInt_natCast,BitVec.ofInt_natCast,BitVec.toNat_or,BitVec.toNat_ofNat,BitVec.toNat_ofNat,Nat.mod_eq_of_lt ha,Nat.mod_eq_of_lt hb];exact eA hlt
theorem bw_lo{x y k:Nat}(h:k<64):bw (x,y) k=(x ||| 2 ^ k,y):=if_pos h
theorem bw_hi{x y k:Nat}(h:¬k<64):bw (x,y) k=(x,y ||| 2 ^ (k-64)):=if_neg h
theorem with_any(s:Nat×Nat)(k:Nat)(w:World)(hs:bok s)(hk:k<128) :
  Calls Tryz.prog 184 #[bv s,.int .i64 (k:Int)] w fun e w'=>e=.returned (bv (bw s k))/\Below w.heap.size w w':=by
 obtain⟨x,y⟩:=s;by_cases h:k<64
 ·have HO:Hid (bits .or .u64 (x:Int) (IntKind.u64.wrap (2 ^ k))=((x ||| 2 ^ k:Nat):Int)):=by
   show _=_
   rw[wrap_pow h];exact bits_or hs.1 (Nat.pow_lt_pow_right (by decide) h)
  rw[bw_lo h];unfold bv;dsimp only
  have h1:(k:Int) / 64=0:=by omega
  have h2:k / 64=0:=by omega
  have h3:(k:Int) % 64=k:=by omega
  have h4:k % 64=k:=by omega
  go_enter Tryz.func184,Tryz.ntmps184
  go_wp2;go_region
  go_wp2;rw[HO.out];refine bodyPost_ret (v:=.agg #[.int .u64 ((x ||| 2 ^ k:Nat):Int),.int .u64 (y:Int)]) (by simp[results,Tryz.results184,go_sem]) rfl ⟨rfl,?_⟩
  exact ((gM.alloc nL _).alloc (by simp) _).drew
 ·have HO:Hid (bits .or .u64 (y:Int) (IntKind.u64.wrap (2 ^ (k-64)))=((y ||| 2 ^ (k-64):Nat):Int)):=by
   show _=_
   rw[wrap_pow (by omega)];exact bits_or hs.2 (Nat.pow_lt_pow_right (by decide) (by omega))
  rw[bw_hi h];unfold bv;dsimp only
  have h1:(k:Int) / 64=1:=by omega
  have h2:k / 64=1:=by omega
  have h3:(k:Int) % 64=(k:Int)-64:=by omega
  have h4:k % 64=k-64:=by omega
  go_enter Tryz.func184,Tryz.ntmps184
  go_wp2;go_region
  go_wp2;rw[HO.out];refine bodyPost_ret (v:=.agg #[.int .u64 (x:Int),.int .u64 ((y ||| 2 ^ (k-64):Nat):Int)]) (by simp[results,Tryz.results184,go_sem]) rfl ⟨rfl,?_⟩
  exact ((gM.alloc nL _).alloc (by simp) _).drew
theorem low_form:∀(x:Nat),x≠0->∃k m,x=2 ^ (k+1)*m+2 ^ k:=by
 intro x;induction x using Nat.strongRecOn with
 | _ x ih=>
  intro h;by_cases h2:x % 2=1
  ·exact⟨0,x / 2,by simp;omega⟩
  ·obtain⟨k,m,e⟩:=ih (x / 2) (by omega) (by omega);refine⟨k+1,m,?_⟩
   have:x=2*(x / 2):=by omega
   rw[this,e,Nat.mul_add,Nat.pow_succ 2 (k+1),Nat.pow_succ 2 k];rw[<-Nat.mul_assoc,Nat.mul_comm 2 (2 ^ k*2),Nat.mul_comm 2 (2 ^ k)]
theorem eh(k m j:Nat):(2 ^ (k+1)*m+2 ^ k).testBit j=if j<k+1 then decide (k=j) else m.testBit (j-(k+1)):=by
 rw[Nat.testBit_two_pow_mul_add m (Nat.pow_lt_pow_right (by decide) (by omega)) j,Nat.testBit_two_pow]
theorem form_less(k m:Nat):2 ^ (k+1)*m+2 ^ k-1=2 ^ (k+1)*m+(2 ^ k-1):=by
 have:=Nat.two_pow_pos k;omega
theorem form_bit1(k m j:Nat):(2 ^ (k+1)*m+2 ^ k-1).testBit j=if j<k+1 then decide (j<k) else m.testBit (j-(k+1)):=by
 rw[form_less,Nat.testBit_two_pow_mul_add m (Nat.lt_of_le_of_lt (Nat.sub_le _ _) (Nat.pow_lt_pow_right (by decide) (by omega))) j,Nat.testBit_two_pow_sub_one]
theorem clear_low(k m j:Nat):((2 ^ (k+1)*m+2 ^ k) &&& (2 ^ (k+1)*m+2 ^ k-1)).testBit j=(decide (k<j) && (2 ^ (k+1)*m+2 ^ k).testBit j):=by
 rw[Nat.testBit_and,eh,form_bit1];by_cases h:j<k+1
 ·rw[if_pos h,if_pos h];by_cases e:k=j
  ·subst e;simp
  ·rw[decide_eq_false e];simp
 ·rw[if_neg h,if_neg h,decide_eq_true (show k<j by omega)]
  simp
theorem keep_low{k m:Nat}(h:2 ^ (k+1)*m+2 ^ k<2 ^ 64):(2 ^ (k+1)*m+2 ^ k) &&& (2 ^ 64-(2 ^ (k+1)*m+2 ^ k))=2 ^ k:=by
 have hp:=Nat.two_pow_pos k;have hk:k<64:=by
  by_cases hk:k<64
  ·exact hk
  ·have:=Nat.pow_le_pow_right (n:=2) (by decide) (show 64<=k by omega)
   omega
 obtain⟨y,hy⟩:∃y,y=2 ^ (k+1)*m+2 ^ k-1:=⟨_,rfl⟩;have hx:2 ^ (k+1)*m+2 ^ k=y+1:=by omega
 apply Nat.eq_of_testBit_eq
 intro j;rw[Nat.testBit_and];have e1:(2 ^ 64-(2 ^ (k+1)*m+2 ^ k)).testBit j=(decide (j<64) && !y.testBit j):=by
  rw[hx];exact Nat.testBit_two_pow_sub_succ (by omega) j
 rw[e1,eh,hy,form_bit1,Nat.testBit_two_pow];by_cases h:j<k+1
 ·rw[if_pos h,if_pos h,decide_eq_true (show j<64 by omega)]
  by_cases e:k=j
  ·subst e;simp
  ·rw[decide_eq_false e];simp
 ·rw[if_neg h,if_neg h,decide_eq_false (show ¬k=j by omega)]
  cases m.testBit (j-(k+1))<;>simp
theorem bits_and{a b:Nat}(ha:a<2 ^ 64)(hb:b<2 ^ 64):bits .and .u64 (a:Int) (b:Int)=((a &&& b:Nat):Int):=by
 have hlt:a &&& b<2 ^ 64:=Nat.lt_of_le_of_lt Nat.and_le_left ha;simp only[bits]
 show IntKind.u64.wrap (((BitVec.ofInt 64 (a:Int)) &&& (BitVec.ofInt 64 (b:Int))).toNat:Int)=_
 rw[BitVec.ofInt_natCast,BitVec.ofInt_natCast,BitVec.toNat_and,BitVec.toNat_ofNat,BitVec.toNat_ofNat,Nat.mod_eq_of_lt ha,Nat.mod_eq_of_lt hb];exact eA hlt
def dbI (k:Nat):Nat:=(2 ^ k*285870213051353865 % 2 ^ 64) / 2 ^ 58
def dbT:List Nat:=[0,1,56,2,57,49,28,3,61,58,42,50,38,29,17,4,62,47,59,36,45,43,51,22,53,39,33,30,24,18,12,5,63,55,48,27,60,41,37,16,46,35,44,21,52,32,23,11,54,26,40,15,34,20,31,10,25,14,19,9,13,8,7,6]
theorem dbT_at:∀k,k<64->dbT[dbI k]?=some k:=by decide +kernel
theorem dbI_lt(k:Nat):dbI k<64:=by
 unfold dbI;have:=Nat.mod_lt (2 ^ k*285870213051353865) (show 0<2 ^ 64 by decide)
 omega
def DB (W:World):Prop:=∀i,i<64->W.cell? ⟨1,i,none⟩=some (.int .u8 ((dbT[i]?.getD 0:Nat):Int))
theorem DB.mono{W W':World}(h:DB W)(hb:Below W.heap.size W W'):DB W':=fun i hi=>cell_later hb (h i hi)
theorem tz_walk(x y z q k:Nat)(W:World)(hx0:((x:Int) == 0)=false)(hn:IntKind.u64.wrap (-(x:Int))=(y:Int))(ha:bits .and .u64 (x:Int) (y:Int)=(z:Int))
  (hw:IntKind.u64.wrap ((z:Int)*285870213051353865) / 288230376151711744=(q:Int))(hq:q<64)(c1:W.cell? ⟨1,q,none⟩=some (.int .u8 (k:Int)))(hk:k<64) :
  Calls Tryz.prog 209 #[.int .u64 (x:Int)] W fun e W'=>e=.returned (.int .i64 (k:Int))/\W'=W:=by
 go_enter Tryz.func209,Tryz.ntmps209
 go_wp2;go_ret
 exact⟨rfl,rfl⟩
theorem form_lt{k m:Nat}(h:2 ^ (k+1)*m+2 ^ k<2 ^ 64):k<64:=by
 by_cases hk:k<64
 ·exact hk
 ·have:=Nat.pow_le_pow_right (n:=2) (by decide) (show 64<=k by omega)
  omega
theorem wrap_neg{x:Nat}(h0:x≠0)(h:x<18446744073709551616):IntKind.u64.wrap (-(x:Int))=((18446744073709551616-x:Nat):Int):=by
 rw[IntKind.wrap_u64];omega
theorem wrap_db(z:Nat):IntKind.u64.wrap ((z:Int)*285870213051353865) / 288230376151711744=(((z*285870213051353865 % 18446744073709551616) / 288230376151711744:Nat):Int):=by
 rw[IntKind.wrap_u64];omega
theorem dbI_eq(k:Nat):(2 ^ k*285870213051353865 % 18446744073709551616) / 288230376151711744=dbI k:=rfl
theorem sub_lt{x:Nat}(h0:x≠0)(h:x<18446744073709551616):18446744073709551616-x<18446744073709551616:=by omega
theorem tz_any(x k m:Nat)(W:World)(hx:x=2 ^ (k+1)*m+2 ^ k)(hlt:x<2 ^ 64)(hD:DB W) :
  Calls Tryz.prog 209 #[.int .u64 (x:Int)] W fun e W'=>e=.returned (.int .i64 (k:Int))/\W'=W:=by
 have hk:k<64:=form_lt (m:=m) (by rw[<-hx];exact hlt);have hx0:x≠0:=by
  have:=Nat.two_pow_pos k;omega
 have hx1:¬(x:Int)=0:=by omega
 have hlt':x<18446744073709551616:=hlt;refine tz_walk x (18446744073709551616-x) (2 ^ k) (dbI k) k W (by simpa using hx1) (wrap_neg hx0 hlt') ?_ (by rw[wrap_db,dbI_eq]) (dbI_lt k) (by rw[hD _ (dbI_lt k),dbT_at k hk];rfl) hk;rw[bits_and hlt (sub_lt hx0 hlt')];have:=keep_low (k:=k) (m:=m) (by rw[<-hx];exact hlt);rw[<-hx] at this;exact congrArg _ this
structure Vl where
 k:Int
 n:Int
 s:ByteArray
structure Fr where
 fn:Int
 pc:Int
 locals:List Vl
 stack:List Vl
structure VmD where
 frames:List Fr
 heap:List (List Vl)
 made:Int
 out:List ByteArray
 status:Int
 trap:Int
 value:Vl
 steps:Int
def aO (w:World)(lo:Nat)(a:Option Addr)(vs:List Vl):Prop:=
 ∀i (h:i<vs.length),∃b off,a=some ⟨b,off,none⟩/\lo<=b/\w.cell? ⟨b,off+i*3,none⟩=some (.int .i64 vs[i].k)/\w.cell? ⟨b,off+i*3+1,none⟩=some (.int .i64 vs[i].n)/\w.cell? ⟨b,off+i*3+2,none⟩=some (.string vs[i].s)
def FrsAt (w:World)(lo:Nat)(a:Option Addr)(fr:List Fr):Prop:=
 ∀i (h:i<fr.length),∃b off la lc sa sc,a=some ⟨b,off,none⟩/\lo<=b/\w.cell? ⟨b,off+i*4,none⟩=some (.int .i64 fr[i].fn)/\w.cell? ⟨b,off+i*4+1,none⟩=some (.int .i64 fr[i].pc) /\
  w.cell? ⟨b,off+i*4+2,none⟩=some (.slice la fr[i].locals.length lc)/\w.cell? ⟨b,off+i*4+3,none⟩=some (.slice sa fr[i].stack.length sc)/\aO w lo la fr[i].locals/\aO w lo sa fr[i].stack
def cE (w:World)(lo:Nat)(a:Option Addr)(rs:List (List Vl)):Prop:=
 ∀i (h:i<rs.length),∃b off fa fc,a=some ⟨b,off,none⟩/\lo<=b/\w.cell? ⟨b,off+i,none⟩=some (.slice fa rs[i].length fc)/\aO w lo fa rs[i]
theorem aO.mono{w w':World}{lo:Nat}{a:Option Addr}{vs:List Vl}(h:aO w lo a vs)(hb:Below w.heap.size w w'):aO w' lo a vs:=by
 intro i hi;obtain⟨b,off,h1,h2,h3,h4,h5⟩:=h i hi;exact⟨b,off,h1,h2,cell_later hb h3,cell_later hb h4,cell_later hb h5⟩
theorem FrsAt.mono{w w':World}{lo:Nat}{a:Option Addr}{fr:List Fr}(h:FrsAt w lo a fr)(hb:Below w.heap.size w w'):FrsAt w' lo a fr:=by
 intro i hi;obtain⟨b,off,la,lc,sa,sc,h1,h2,h3,h4,h5,h6,h7,h8⟩:=h i hi;exact⟨b,off,la,lc,sa,sc,h1,h2,cell_later hb h3,cell_later hb h4,cell_later hb h5,cell_later hb h6,h7.mono hb,h8.mono hb⟩
theorem cE.mono{w w':World}{lo:Nat}{a:Option Addr}{rs:List (List Vl)}(h:cE w lo a rs)(hb:Below w.heap.size w w'):cE w' lo a rs:=by
 intro i hi;obtain⟨b,off,fa,fc,h1,h2,h3,h4⟩:=h i hi;exact⟨b,off,fa,fc,h1,h2,cell_later hb h3,h4.mono hb⟩
theorem aO.above{w w':World}{lo:Nat}{a:Option Addr}{vs:List Vl}(h:aO w lo a vs)(hb:aL lo w w'):aO w' lo a vs:=by
 intro i hi;obtain⟨b,off,h1,h2,h3,h4,h5⟩:=h i hi;exact⟨b,off,h1,h2,hb.cell h2 h3,hb.cell h2 h4,hb.cell h2 h5⟩
theorem aO.low{w:World}{lo lo':Nat}{a:Option Addr}{vs:List Vl}(h:aO w lo a vs)(hl:lo'<=lo):aO w lo' a vs:=fun i hi=>by
 obtain⟨b,off,h1,h2,h3⟩:=h i hi;exact⟨b,off,h1,by omega,h3⟩
def bs (vs:List Vl):Prop:=vs.length<=maxLen/\∀v∈vs,v.s.size<=maxLen
def aK (vs:List Vl):Prop:=vs.length<=1048576/\∀v∈vs,v.s.size<=1048576
structure VmMax (d:VmD):Prop where
 frames:d.frames.length<=maxLen
 locals:∀f∈d.frames,bs f.locals
 stack:∀f∈d.frames,bs f.stack
 heap:d.heap.length<=maxLen
 fields:∀r∈d.heap,bs r
 out:d.out.length<=maxLen
 text:∀s∈d.out,s.size<=maxLen
 value:d.value.s.size<=maxLen
structure bU (d:VmD):Prop where
 frames:d.frames.length<=1048576
 locals:∀f∈d.frames,aK f.locals
 stack:∀f∈d.frames,aK f.stack
 heap:d.heap.length<=1048576
 fields:∀r∈d.heap,aK r
 out:d.out.length<=1048576
 text:∀s∈d.out,s.size<=1048576
 value:d.value.s.size<=1048576
structure Sr where
 k:Int
 n:Int
 v:Vl
structure EF where
 fn:Int
 pc:Int
 locals:List Sr
 stack:List Sr
structure ER where
 fields:List Sr
structure Ex where
 kind:Int
 spec:Si
 frames:List EF
 recs:List ER
structure Fo where
 op:Int
 d:Int
 a:Int
 b:Int
 x:Int
 f:Int
 p:Int
 v:Vl
structure aH where
 fn:Int
 entry:Int
 vals:Int
 nums:Int
 ops:List Fo
 exits:List Ex
def LMax {α:Type}(p:α->Prop)(l:List α):Prop:=l.length<=maxLen/\∀x∈l,p x
def aU {α:Type}(p:α->Prop)(l:List α):Prop:=l.length<=1048576/\∀x∈l,p x
def fm (x:Sr):Prop:=x.v.s.size<=maxLen
def bC (x:Sr):Prop:=x.v.s.size<=1048576
def f5 (x:EF):Prop:=LMax fm x.locals/\LMax fm x.stack
def cz (x:EF):Prop:=aU bC x.locals/\aU bC x.stack
def fY (x:ER):Prop:=LMax fm x.fields
def cR (x:ER):Prop:=aU bC x.fields
def f6 (x:Ex):Prop:=LMax f5 x.frames/\LMax fY x.recs
def ck (x:Ex):Prop:=aU cz x.frames/\aU cR x.recs
def fJ (x:Fo):Prop:=x.v.s.size<=maxLen
def cL (x:Fo):Prop:=x.v.s.size<=1048576
def FastMax (x:aH):Prop:=LMax fJ x.ops/\LMax f6 x.exits
def bI (x:aH):Prop:=aU cL x.ops/\aU ck x.exits
def bq (w:World)(lo:Nat)(a:Option Addr)(xs:List Sr):Prop:=
 ∀i (h:i<xs.length),∃b off,a=some ⟨b,off,none⟩/\lo<=b/\w.cell? ⟨b,off+i*5,none⟩=some (.int .i64 xs[i].k)/\w.cell? ⟨b,off+i*5+1,none⟩=some (.int .i64 xs[i].n)/\w.cell? ⟨b,off+i*5+2,none⟩=some (.int .i64 xs[i].v.k)/\w.cell? ⟨b,off+i*5+3,none⟩=some (.int .i64 xs[i].v.n)/\w.cell? ⟨b,off+i*5+4,none⟩=some (.string xs[i].v.s)
theorem bq.mono{w w':World}{lo:Nat}{a:Option Addr}{xs:List Sr}(h:bq w lo a xs)(hb:Below w.heap.size w w'):bq w' lo a xs:=by
 intro i hi;obtain⟨b,off,e1,e2,h0,h1,h2,h3,h4⟩:=h i hi;exact⟨b,off,e1,e2,cell_later hb h0,cell_later hb h1,cell_later hb h2,cell_later hb h3,cell_later hb h4⟩
theorem bq.above{w w':World}{lo:Nat}{a:Option Addr}{xs:List Sr}(h:bq w lo a xs)(hb:aL lo w w'):bq w' lo a xs:=by
 intro i hi;obtain⟨b,off,e1,e2,h0,h1,h2,h3,h4⟩:=h i hi;exact⟨b,off,e1,e2,hb.cell e2 h0,hb.cell e2 h1,hb.cell e2 h2,hb.cell e2 h3,hb.cell e2 h4⟩
theorem bq.low{w:World}{lo lo':Nat}{a:Option Addr}{xs:List Sr}(h:bq w lo a xs)(hl:lo'<=lo):bq w lo' a xs:=by
 intro i hi;obtain⟨b,off,e1,e2,h0,h1,h2,h3,h4⟩:=h i hi;exact⟨b,off,e1,by omega,h0,h1,h2,h3,h4⟩
def bZ (w:World)(lo:Nat)(a:Option Addr)(xs:List EF):Prop:=
 ∀i (h:i<xs.length),∃b off a0 c0 a1 c1,a=some ⟨b,off,none⟩/\lo<=b/\w.cell? ⟨b,off+i*4,none⟩=some (.int .i64 xs[i].fn)/\w.cell? ⟨b,off+i*4+1,none⟩=some (.int .i64 xs[i].pc)/\w.cell? ⟨b,off+i*4+2,none⟩=some (.slice a0 xs[i].locals.length c0)/\w.cell? ⟨b,off+i*4+3,none⟩=some (.slice a1 xs[i].stack.length c1)/\bq w lo a0 xs[i].locals/\bq w lo a1 xs[i].stack
theorem bZ.mono{w w':World}{lo:Nat}{a:Option Addr}{xs:List EF}(h:bZ w lo a xs)(hb:Below w.heap.size w w'):bZ w' lo a xs:=by
 intro i hi;obtain⟨b,off,a0,c0,a1,c1,e1,e2,h0,h1,h2,h3,p0,p1⟩:=h i hi;exact⟨b,off,a0,c0,a1,c1,e1,e2,cell_later hb h0,cell_later hb h1,cell_later hb h2,cell_later hb h3,p0.mono hb,p1.mono hb⟩
theorem bZ.above{w w':World}{lo:Nat}{a:Option Addr}{xs:List EF}(h:bZ w lo a xs)(hb:aL lo w w'):bZ w' lo a xs:=by
 intro i hi;obtain⟨b,off,a0,c0,a1,c1,e1,e2,h0,h1,h2,h3,p0,p1⟩:=h i hi;exact⟨b,off,a0,c0,a1,c1,e1,e2,hb.cell e2 h0,hb.cell e2 h1,hb.cell e2 h2,hb.cell e2 h3,p0.above hb,p1.above hb⟩
theorem bZ.low{w:World}{lo lo':Nat}{a:Option Addr}{xs:List EF}(h:bZ w lo a xs)(hl:lo'<=lo):bZ w lo' a xs:=by
 intro i hi;obtain⟨b,off,a0,c0,a1,c1,e1,e2,h0,h1,h2,h3,p0,p1⟩:=h i hi;exact⟨b,off,a0,c0,a1,c1,e1,by omega,h0,h1,h2,h3,p0.low hl,p1.low hl⟩
def b8 (w:World)(lo:Nat)(a:Option Addr)(xs:List ER):Prop:=
 ∀i (h:i<xs.length),∃b off a0 c0,a=some ⟨b,off,none⟩/\lo<=b/\w.cell? ⟨b,off+i,none⟩=some (.slice a0 xs[i].fields.length c0)/\bq w lo a0 xs[i].fields
theorem b8.mono{w w':World}{lo:Nat}{a:Option Addr}{xs:List ER}(h:b8 w lo a xs)(hb:Below w.heap.size w w'):b8 w' lo a xs:=by
 intro i hi;obtain⟨b,off,a0,c0,e1,e2,h0,p0⟩:=h i hi;exact⟨b,off,a0,c0,e1,e2,cell_later hb h0,p0.mono hb⟩
theorem b8.above{w w':World}{lo:Nat}{a:Option Addr}{xs:List ER}(h:b8 w lo a xs)(hb:aL lo w w'):b8 w' lo a xs:=by
 intro i hi;obtain⟨b,off,a0,c0,e1,e2,h0,p0⟩:=h i hi;exact⟨b,off,a0,c0,e1,e2,hb.cell e2 h0,p0.above hb⟩
theorem b8.low{w:World}{lo lo':Nat}{a:Option Addr}{xs:List ER}(h:b8 w lo a xs)(hl:lo'<=lo):b8 w lo' a xs:=by
 intro i hi;obtain⟨b,off,a0,c0,e1,e2,h0,p0⟩:=h i hi;exact⟨b,off,a0,c0,e1,by omega,h0,p0.low hl⟩
def bV (w:World)(lo:Nat)(a:Option Addr)(xs:List Ex):Prop:=
 ∀i (h:i<xs.length),∃b off a0 c0 a1 c1,a=some ⟨b,off,none⟩/\lo<=b/\w.cell? ⟨b,off+i*7,none⟩=some (.int .i64 xs[i].kind)/\w.cell? ⟨b,off+i*7+1,none⟩=some (.int .i64 xs[i].spec.f)/\w.cell? ⟨b,off+i*7+2,none⟩=some (.int .i64 xs[i].spec.pc)/\w.cell? ⟨b,off+i*7+3,none⟩=some (.int .i64 xs[i].spec.seen)/\w.cell? ⟨b,off+i*7+4,none⟩=some (.int .i64 xs[i].spec.target)/\w.cell? ⟨b,off+i*7+5,none⟩=some (.slice a0 xs[i].frames.length c0)/\w.cell? ⟨b,off+i*7+6,none⟩=some (.slice a1 xs[i].recs.length c1)/\bZ w lo a0 xs[i].frames/\b8 w lo a1 xs[i].recs
theorem bV.mono{w w':World}{lo:Nat}{a:Option Addr}{xs:List Ex}(h:bV w lo a xs)(hb:Below w.heap.size w w'):bV w' lo a xs:=by
 intro i hi;obtain⟨b,off,a0,c0,a1,c1,e1,e2,h0,h1,h2,h3,h4,h5,h6,p0,p1⟩:=h i hi;exact⟨b,off,a0,c0,a1,c1,e1,e2,cell_later hb h0,cell_later hb h1,cell_later hb h2,cell_later hb h3,cell_later hb h4,cell_later hb h5,cell_later hb h6,p0.mono hb,p1.mono hb⟩
theorem bV.above{w w':World}{lo:Nat}{a:Option Addr}{xs:List Ex}(h:bV w lo a xs)(hb:aL lo w w'):bV w' lo a xs:=by
 intro i hi;obtain⟨b,off,a0,c0,a1,c1,e1,e2,h0,h1,h2,h3,h4,h5,h6,p0,p1⟩:=h i hi;exact⟨b,off,a0,c0,a1,c1,e1,e2,hb.cell e2 h0,hb.cell e2 h1,hb.cell e2 h2,hb.cell e2 h3,hb.cell e2 h4,hb.cell e2 h5,hb.cell e2 h6,p0.above hb,p1.above hb⟩
theorem bV.low{w:World}{lo lo':Nat}{a:Option Addr}{xs:List Ex}(h:bV w lo a xs)(hl:lo'<=lo):bV w lo' a xs:=by
 intro i hi;obtain⟨b,off,a0,c0,a1,c1,e1,e2,h0,h1,h2,h3,h4,h5,h6,p0,p1⟩:=h i hi;exact⟨b,off,a0,c0,a1,c1,e1,by omega,h0,h1,h2,h3,h4,h5,h6,p0.low hl,p1.low hl⟩
def bS (w:World)(lo:Nat)(a:Option Addr)(xs:List Fo):Prop:=
 ∀i (h:i<xs.length),∃b off,a=some ⟨b,off,none⟩/\lo<=b/\w.cell? ⟨b,off+i*10,none⟩=some (.int .i64 xs[i].op)/\w.cell? ⟨b,off+i*10+1,none⟩=some (.int .i64 xs[i].d)/\w.cell? ⟨b,off+i*10+2,none⟩=some (.int .i64 xs[i].a)/\w.cell? ⟨b,off+i*10+3,none⟩=some (.int .i64 xs[i].b)/\w.cell? ⟨b,off+i*10+4,none⟩=some (.int .i64 xs[i].x)/\w.cell? ⟨b,off+i*10+5,none⟩=some (.int .i64 xs[i].f)/\w.cell? ⟨b,off+i*10+6,none⟩=some (.int .i64 xs[i].p)/\w.cell? ⟨b,off+i*10+7,none⟩=some (.int .i64 xs[i].v.k)/\w.cell? ⟨b,off+i*10+8,none⟩=some (.int .i64 xs[i].v.n)/\w.cell? ⟨b,off+i*10+9,none⟩=some (.string xs[i].v.s)
theorem bS.mono{w w':World}{lo:Nat}{a:Option Addr}{xs:List Fo}(h:bS w lo a xs)(hb:Below w.heap.size w w'):bS w' lo a xs:=by
 intro i hi;obtain⟨b,off,e1,e2,h0,h1,h2,h3,h4,h5,h6,h7,h8,h9⟩:=h i hi;exact⟨b,off,e1,e2,cell_later hb h0,cell_later hb h1,cell_later hb h2,cell_later hb h3,cell_later hb h4,cell_later hb h5,cell_later hb h6,cell_later hb h7,cell_later hb h8,cell_later hb h9⟩
theorem bS.above{w w':World}{lo:Nat}{a:Option Addr}{xs:List Fo}(h:bS w lo a xs)(hb:aL lo w w'):bS w' lo a xs:=by
 intro i hi;obtain⟨b,off,e1,e2,h0,h1,h2,h3,h4,h5,h6,h7,h8,h9⟩:=h i hi;exact⟨b,off,e1,e2,hb.cell e2 h0,hb.cell e2 h1,hb.cell e2 h2,hb.cell e2 h3,hb.cell e2 h4,hb.cell e2 h5,hb.cell e2 h6,hb.cell e2 h7,hb.cell e2 h8,hb.cell e2 h9⟩
theorem bS.low{w:World}{lo lo':Nat}{a:Option Addr}{xs:List Fo}(h:bS w lo a xs)(hl:lo'<=lo):bS w lo' a xs:=by
 intro i hi;obtain⟨b,off,e1,e2,h0,h1,h2,h3,h4,h5,h6,h7,h8,h9⟩:=h i hi;exact⟨b,off,e1,by omega,h0,h1,h2,h3,h4,h5,h6,h7,h8,h9⟩
def bX (oa ea:Option Addr)(oc ec:Nat)(d:aH):Array Value:=#[.int .i64 d.fn,.int .i64 d.entry,.int .i64 d.vals,.int .i64 d.nums,.slice oa d.ops.length oc,.slice ea d.exits.length ec]
structure ev (w:World)(lo:Nat)(oa ea:Option Addr)(d:aH):Prop where
 ops:bS w lo oa d.ops
 exits:bV w lo ea d.exits
theorem ev.mono{w w':World}{lo:Nat}{oa ea:Option Addr}{d:aH}(h:ev w lo oa ea d)(hb:Below w.heap.size w w'):ev w' lo oa ea d:=⟨h.ops.mono hb,h.exits.mono hb⟩
theorem toIns_any(o a:Int)(w:World) :
  Calls Tryz.prog 141 #[.agg #[.int .i64 o,.int .i64 a]] w fun e w'=>e=.returned (.agg #[.int .i64 o,.int .i64 a])/\Below w.heap.size w w':=by
 go_enter Tryz.func141,Tryz.ntmps141
 go_wp2;refine bodyPost_ret (v:=.agg #[.int .i64 o,.int .i64 a]) (by simp[results,Tryz.results141,go_sem]) rfl ⟨rfl,?_⟩;exact ((gM.alloc nL _).alloc (by simp) _).alloc (by simp;omega) _
theorem info9:(Tryz.prog.info? 9).map (fun i=>(i.zero,i.size,i.bytes))=some (some (.string ByteArray.empty),1,16):=by kernel_rfl
theorem toStringS_any(a:Option Addr)(ss:List ByteArray)(cap:Nat)(w:World)(hn:ss.length<=1048576)(hm:aT w 0 a ss) :
  Calls Tryz.prog 20 #[.slice a ss.length cap] w fun e w'=>e=.returned (.slice (some ⟨w.heap.size,0,none⟩) ss.length ss.length)/\aT w' w.heap.size (some ⟨w.heap.size,0,none⟩) ss/\Below w.heap.size w w':=by
 obtain⟨i0,hi,hz0,hz1,hz2⟩:=info_parts info9;go_enter Tryz.func20,Tryz.ntmps20
 go_wp2_with (first | (at_make;refine wpList_make_full _ rfl _ _ 22 rfl w.heap.size 9 i0 (.string ByteArray.empty) 1 Tryz.underlying22 hi hz0 hz1 _ _ _ _ ss.length rfl rfl rfl rfl (by rw[hz2];omega) (by unfold maxLen;omega) nL ?_;intro w1 hown hgrow))
 obtain⟨cur0,hblk,hsz⟩:=aR hown;have hb0:Below w.heap.size w w1:=gM.grown hgrow nL (by intro k hk;cases hk);clear hown hgrow hi hz0 hz1 hz2;go_loopw [4] (fun i wr=>∃(k:Nat) (cur:Array Value),k<=ss.length/\i=.int .i64 k/\wr.heap[w.heap.size]?=some (.cells cur 9 (0,0))/\cur.size=ss.length*1/\(∀j (hj:j<ss.length),j<k->cur[j]?=some (.string ss[j]))/\Below w.heap.size w wr) (fun i _=>ss.length-(intOf i).toNat)
 case atStart=>exact⟨0,cur0,by omega,rfl,hblk,hsz,fun j _ h=>by omega,hb0⟩
 case round=>
  obtain⟨k,cur,hk,rfl,hblk,hsz,hdone,hb⟩:=hrel;by_cases hlt:k<ss.length
  ·obtain⟨b,off,rfl,-,c1⟩:=hm k hlt;have c1':=cell_later hb c1;clear c1;have hfz:=am hblk k;have hcl:wr.cell? ⟨w.heap.size,k,none⟩=some cur[k]:=by rw[aa hblk k];simp
   go_wp2;go_roundw
   case rel=>
    refine⟨k+1,cur.setIfInBounds k (.string ss[k]),by omega,by go_num,ao hblk _,by simpa using hsz,?_,hb.setCell nL _⟩;intro j hj hjk;by_cases e:j=k
    ·subst e;exact az _ (by omega)
    ·rw[ac _ e];exact hdone j hj (by omega)
   case measure=>simp[intOf];omega
  ·go_wp2;go_ret
   exact⟨rfl,fun j hj=>⟨w.heap.size,0,rfl,Nat.le_refl _,by rw[aa hblk,Nat.zero_add];exact hdone j hj (by omega)⟩,hb⟩
theorem info153:(Tryz.prog.info? 153).map (fun i=>(i.zero,i.size,i.bytes))=some (some (.agg #[.int .i64 0,.int .i64 0]),2,16):=by kernel_rfl
theorem toInsS_any(a:Option Addr)(xs:List (Int×Int))(cap:Nat)(w:World)(hn:xs.length<=1048576)(hm:bi w 0 a xs) :
  Calls Tryz.prog 95 #[.slice a xs.length cap] w fun e w'=>e=.returned (.slice (some ⟨w.heap.size,0,none⟩) xs.length xs.length)/\bi w' w.heap.size (some ⟨w.heap.size,0,none⟩) xs/\Below w.heap.size w w':=by
 obtain⟨i0,hi,hz0,hz1,hz2⟩:=info_parts info153;go_enter Tryz.func95,Tryz.ntmps95
 go_wp2_with (first | (at_make;refine wpList_make_full _ rfl _ _ 105 rfl w.heap.size 153 i0 (.agg #[.int .i64 0,.int .i64 0]) 2 Tryz.underlying105 hi hz0 hz1 _ _ _ _ xs.length rfl rfl rfl rfl (by rw[hz2];omega) (by unfold maxLen;omega) nL ?_;intro w1 hown hgrow))
 obtain⟨cur0,hblk,hsz⟩:=aR hown;have hb0:Below w.heap.size w w1:=gM.grown hgrow nL (by intro k hk;cases hk);clear hown hgrow hi hz0 hz1 hz2;go_loopw [4] (fun i wr=>∃(k:Nat) (cur:Array Value),k<=xs.length/\i=.int .i64 k/\wr.heap[w.heap.size]?=some (.cells cur 153 (0,0))/\cur.size=xs.length*2/\(∀j (hj:j<xs.length),j<k->cur[j*2]?=some (.int .i64 xs[j].1)/\cur[j*2+1]?=some (.int .i64 xs[j].2))/\Below w.heap.size w wr) (fun i _=>xs.length-(intOf i).toNat)
 case atStart=>exact⟨0,cur0,by omega,rfl,hblk,hsz,fun j _ h=>by omega,hb0⟩
 case round=>
  obtain⟨k,cur,hk,rfl,hblk,hsz,hdone,hb⟩:=hrel;by_cases hlt:k<xs.length
  ·obtain⟨b,off,rfl,-,c1,c2⟩:=hm k hlt;have c1':=cell_later hb c1;have c2':=cell_later hb c2;clear c1 c2;go_wp2_with fail
   refine (toIns_any _ _ _).mono ?_;rintro e w2 ⟨rfl,hb2⟩;have hblk2:=ab hblk hb2;have hfz:=am hblk2 (k*2);have hfz2:=am hblk2 (k*2+1);have hcl:w2.cell? ⟨w.heap.size,k*2,none⟩=some cur[k*2]:=by rw[aa hblk2];simp
   have hcl2:w2.cell? ⟨w.heap.size,k*2+1,none⟩=some cur[k*2+1]:=by rw[aa hblk2];simp
   have hb3:Below w.heap.size w w2:=hb.trans (hb2.mono hb.size);go_wp2;go_roundw
   case rel=>
    refine⟨k+1,(cur.setIfInBounds (k*2) (.int .i64 xs[k].1)).setIfInBounds (k*2+1) (.int .i64 xs[k].2),by omega,by go_num,ao (ao hblk2 _) _,by simpa using hsz,?_,(hb3.setCell nL _).setCell nL _⟩;intro j hj hjk;by_cases e:j=k
    ·subst e;exact⟨by rw[ac _ (by omega)];exact az _ (by omega),az _ (by simp;omega)⟩
    ·rw[ac _ (by omega),ac _ (by omega),ac _ (by omega),ac _ (by omega)];exact hdone j hj (by omega)
   case measure=>simp[intOf];omega
  ·go_wp2;go_ret
   exact⟨rfl,fun j hj=>⟨w.heap.size,0,rfl,Nat.le_refl _,by rw[aa hblk,Nat.zero_add];exact (hdone j hj (by omega)).1,by rw[aa hblk,Nat.zero_add];exact (hdone j hj (by omega)).2⟩,hb⟩
theorem toFunc_any(p l:Int)(a:Option Addr)(xs:List (Int×Int))(cap:Nat)(w:World)(hn:xs.length<=1048576)(hm:bi w 0 a xs) :
  Calls Tryz.prog 48 #[.agg #[.int .i64 p,.int .i64 l,.slice a xs.length cap]] w fun e w'=>∃g,w.heap.size<=g/\e=.returned (.agg #[.int .i64 p,.int .i64 l,.slice (some ⟨g,0,none⟩) xs.length xs.length])/\bi w' w.heap.size (some ⟨g,0,none⟩) xs/\Below w.heap.size w w':=by
 go_enter Tryz.func48,Tryz.ntmps48
 go_wp2_with fail
 have hbA:Below w.heap.size w (((w.alloc (.cells #[.int .i64 p,.int .i64 l,.slice a xs.length cap] 85)).alloc (.cells #[.int .i64 0,.int .i64 0,.slice none 0 0] 107)).alloc (.cells #[.int .i64 p,.int .i64 l,.slice none 0 0] 107)):=
  ((gM.alloc nL _).alloc (by simp) _).alloc (by simp;omega) _
 refine (toInsS_any a xs cap _ hn (hm.mono hbA)).mono ?_;rintro e w1 ⟨rfl,hcode,hb⟩;have hR:=ab (al (ah (w.alloc (.cells #[.int .i64 p,.int .i64 l,.slice a xs.length cap] 85)) #[.int .i64 0,.int .i64 0,.slice none 0 0] 107) (.cells #[.int .i64 p,.int .i64 l,.slice none 0 0] 107)) hb;have hO:=ab (ah ((w.alloc (.cells #[.int .i64 p,.int .i64 l,.slice a xs.length cap] 85)).alloc (.cells #[.int .i64 0,.int .i64 0,.slice none 0 0] 107)) #[.int .i64 p,.int .i64 l,.slice none 0 0] 107) hb;simp only[World.size_alloc] at hR hO hcode
 have r1:=aa hR;have r2:=am hR;have o1:=aa hO;have o2:=am hO;have hb1:Below w.heap.size w w1:=hbA.trans (hb.mono (by simp;omega));go_wp2;refine bodyPost_ret (v:=.agg #[.int .i64 p,.int .i64 l,.slice (some ⟨w.heap.size+1+1+1,0,none⟩) xs.length xs.length]) (by simp[results,Tryz.results48,go_sem,r1]) rfl ⟨_,by omega,rfl,?_,?_⟩
 ·exact (hcode.above (((((aL.refl _ _).setCell (by simp) _).setCell (by simp) _).setCell (by simp) _).setCell (by simp) _)).low (by omega)
 ·exact (((hb1.setCell (by simp;omega) _).setCell (by simp) _).setCell (by simp) _).setCell (by simp) _
theorem info107:(Tryz.prog.info? 107).map (fun i=>(i.zero,i.size,i.bytes))=some (some (.agg #[.int .i64 0,.int .i64 0,.slice none 0 0]),3,40):=by kernel_rfl
theorem toFuncS_any(a:Option Addr)(fs:List Fn)(cap:Nat)(w:World)(hn:fs.length<=1048576)(hc:∀f∈fs,f.code.length<=1048576)(hm:FnsAt w 0 a fs) :
  Calls Tryz.prog 21 #[.slice a fs.length cap] w fun e w'=>e=.returned (.slice (some ⟨w.heap.size,0,none⟩) fs.length fs.length)/\FnsAt w' w.heap.size (some ⟨w.heap.size,0,none⟩) fs/\Below w.heap.size w w':=by
 obtain⟨i0,hi,hz0,hz1,hz2⟩:=info_parts info107;go_enter Tryz.func21,Tryz.ntmps21
 go_wp2_with (first | (at_make;refine wpList_make_full _ rfl _ _ 40 rfl w.heap.size 107 i0 (.agg #[.int .i64 0,.int .i64 0,.slice none 0 0]) 3 Tryz.underlying40 hi hz0 hz1 _ _ _ _ fs.length rfl rfl rfl rfl (by rw[hz2];omega) (by unfold maxLen;omega) nL ?_;intro w1 hown hgrow))
 obtain⟨cur0,hblk,hsz⟩:=aR hown;have hb0:Below w.heap.size w w1:=gM.grown hgrow nL (by intro k hk;cases hk);clear hown hgrow hi hz0 hz1 hz2
 go_loopw [4] (fun i wr=>∃(k:Nat) (cur:Array Value),k<=fs.length/\i=.int .i64 k/\wr.heap[w.heap.size]?=some (.cells cur 107 (0,0))/\cur.size=fs.length*3 /\
   (∀j (hj:j<fs.length),j<k->cur[j*3]?=some (.int .i64 fs[j].params)/\cur[j*3+1]?=some (.int .i64 fs[j].locals)/\∃g,cur[j*3+2]?=some (.slice (some ⟨g,0,none⟩) fs[j].code.length fs[j].code.length)/\bi wr (w.heap.size+1) (some ⟨g,0,none⟩) fs[j].code)/\Below w.heap.size w wr) (fun i _=>fs.length-(intOf i).toNat)
 case atStart=>exact⟨0,cur0,by omega,rfl,hblk,hsz,fun j _ h=>by omega,hb0⟩
 case round=>
  obtain⟨k,cur,hk,rfl,hblk,hsz,hdone,hb⟩:=hrel;by_cases hlt:k<fs.length
  ·obtain⟨b,off,ca,cc,rfl,-,c1,c2,c3,c4⟩:=hm k hlt;have c1':=cell_later hb c1;have c2':=cell_later hb c2;have c3':=cell_later hb c3;clear c1 c2 c3;have hgs:w.heap.size<wr.heap.size:=by
    rcases Nat.lt_or_ge w.heap.size wr.heap.size with h | h
    ·exact h
    ·rw[Array.getElem?_eq_none h] at hblk;cases hblk
   have hck:=hc fs[k] (n_l hlt);go_wp2_with fail
   refine (toFunc_any _ _ _ _ _ _ hck (c4.mono hb)).mono ?_;rintro e w2 ⟨g,hg,rfl,hcode,hb2⟩;have hblk2:=ab hblk hb2;have hfz:=am hblk2;have hcl:w2.cell? ⟨w.heap.size,k*3,none⟩=some cur[k*3]:=by rw[aa hblk2];simp
   have hcl2:w2.cell? ⟨w.heap.size,k*3+1,none⟩=some cur[k*3+1]:=by rw[aa hblk2];simp
   have hcl3:w2.cell? ⟨w.heap.size,k*3+2,none⟩=some cur[k*3+2]:=by rw[aa hblk2];simp
   have hb3:Below w.heap.size w w2:=hb.trans (hb2.mono hb.size);go_wp2;go_roundw
   case rel=>
    have hab:aL (w.heap.size+1) w2 (((w2.setCell ⟨w.heap.size,k*3,none⟩ (.int .i64 fs[k].params)).setCell ⟨w.heap.size,k*3+1,none⟩ (.int .i64 fs[k].locals)).setCell ⟨w.heap.size,k*3+2,none⟩ (.slice (some ⟨g,0,none⟩) fs[k].code.length fs[k].code.length)):=
     (((aL.refl _ _).setCell (by simp) _).setCell (by simp) _).setCell (by simp) _
    refine⟨k+1,((cur.setIfInBounds (k*3) (.int .i64 fs[k].params)).setIfInBounds (k*3+1) (.int .i64 fs[k].locals)).setIfInBounds (k*3+2) (.slice (some ⟨g,0,none⟩) fs[k].code.length fs[k].code.length),by omega,by go_num,ao (ao (ao hblk2 _) _) _,by simpa using hsz,?_,((hb3.setCell nL _).setCell nL _).setCell nL _⟩;intro j hj hjk;by_cases e:j=k
    ·subst e;refine⟨?_,?_,g,?_,(hcode.low (by omega)).above hab⟩
     ·rw[ac _ (by omega),ac _ (by omega)];exact az _ (by omega)
     ·rw[ac _ (by omega)];exact az _ (by simp;omega)
     ·exact az _ (by simp;omega)
    ·obtain⟨d1,d2,g',d3,d4⟩:=hdone j hj (by omega);refine⟨?_,?_,g',?_,(d4.mono hb2).above hab⟩
     ·rw[ac _ (by omega),ac _ (by omega),ac _ (by omega)];exact d1
     ·rw[ac _ (by omega),ac _ (by omega),ac _ (by omega)];exact d2
     ·rw[ac _ (by omega),ac _ (by omega),ac _ (by omega)];exact d3
   case measure=>simp[intOf];omega
  ·go_wp2;go_ret
   refine⟨rfl,fun j hj=>?_,hb⟩;obtain⟨d1,d2,g',d3,d4⟩:=hdone j hj (by omega);exact⟨w.heap.size,0,some ⟨g',0,none⟩,fs[j].code.length,rfl,Nat.le_refl _,by rw[aa hblk,Nat.zero_add];exact d1,by rw[aa hblk,Nat.zero_add];exact d2,by rw[aa hblk,Nat.zero_add];exact d3,d4.low (by omega)⟩
theorem toModule_any(a a2:Option Addr)(ts:List ByteArray)(fs:List Fn)(cap cap2:Nat)(w:World)(hs:b9 ts fs)(hm:aT w 0 a ts)(hm2:FnsAt w 0 a2 fs) :
  Calls Tryz.prog 7 #[.agg #[.slice a ts.length cap,.slice a2 fs.length cap2]] w fun e w'=>∃g g2,w.heap.size<=g/\w.heap.size<=g2/\e=.returned (.agg #[.slice (some ⟨g,0,none⟩) ts.length ts.length,.slice (some ⟨g2,0,none⟩) fs.length fs.length]) /\
   aT w' w.heap.size (some ⟨g,0,none⟩) ts/\FnsAt w' w.heap.size (some ⟨g2,0,none⟩) fs/\Below w.heap.size w w':=by
 go_enter Tryz.func7,Tryz.ntmps7
 go_wp2_with fail
 have hbA:Below w.heap.size w (((w.alloc (.cells #[.slice a ts.length cap,.slice a2 fs.length cap2] 25)).alloc (.cells #[.slice none 0 0,.slice none 0 0] 42)).alloc (.cells #[.slice none 0 0,.slice none 0 0] 42)):=
  ((gM.alloc nL _).alloc (by simp) _).alloc (by simp;omega) _
 refine (toStringS_any a ts cap _ hs.texts (hm.mono hbA)).mono ?_;rintro e w1 ⟨rfl,hst,hb⟩;have hB:=ab (al (al (ah w #[.slice a ts.length cap,.slice a2 fs.length cap2] 25) (.cells #[.slice none 0 0,.slice none 0 0] 42)) (.cells #[.slice none 0 0,.slice none 0 0] 42)) hb;have hR:=ab (al (ah (w.alloc (.cells #[.slice a ts.length cap,.slice a2 fs.length cap2] 25)) #[.slice none 0 0,.slice none 0 0] 42) (.cells #[.slice none 0 0,.slice none 0 0] 42)) hb;have hO:=ab (ah ((w.alloc (.cells #[.slice a ts.length cap,.slice a2 fs.length cap2] 25)).alloc (.cells #[.slice none 0 0,.slice none 0 0] 42)) #[.slice none 0 0,.slice none 0 0] 42) hb;simp only[World.size_alloc] at hB hR hO hst
 have hz1:=hb.size;simp only[World.size_alloc] at hz1
 have hb1:Below w.heap.size w w1:=hbA.trans (hb.mono (by simp;omega));have b1:=aa hB;have o1:=aa hO;have o2:=am hO;go_wp2_with fail
 have hb1':Below w.heap.size w (w1.setCell ⟨w.heap.size+1+1,0,none⟩ (.slice (some ⟨w.heap.size+1+1+1,0,none⟩) ts.length ts.length)):=hb1.setCell (by simp;omega) _;refine (toFuncS_any a2 fs cap2 _ hs.funcs hs.code (hm2.mono hb1')).mono ?_;rintro e w2 ⟨rfl,hfn,hb2⟩;have hR2:=ab (w':=w2) (show (w1.setCell ⟨w.heap.size+1+1,0,none⟩ (.slice (some ⟨w.heap.size+1+1+1,0,none⟩) ts.length ts.length)).heap[w.heap.size+1]?=_ by rw[Below.heap_setCell _ _ _ _ (by simp)];exact hR) hb2
 have hO2:=ab (w':=w2) (ao (i:=0) hO (.slice (some ⟨w.heap.size+1+1+1,0,none⟩) ts.length ts.length)) hb2;have hst2:aT w2 (w.heap.size+1+1+1) (some ⟨w.heap.size+1+1+1,0,none⟩) ts:=(hst.above ((aL.refl _ _).setCell (p:=⟨w.heap.size+1+1,0,none⟩) (by simp) (.slice (some ⟨w.heap.size+1+1+1,0,none⟩) ts.length ts.length))).mono hb2;simp only[World.size_setCell] at hfn hb2 ⊢
 have hb3:Below w.heap.size w w2:=hb1'.trans (hb2.mono (by omega));simp at hO2
 have r1:=aa hR2;have r2:=am hR2;have p1:=aa hO2;have p2:=am hO2;clear hB hR hO b1 o1 o2 hR2 hO2 hst hb hb2 hbA hb1';go_wp2;refine bodyPost_ret (v:=.agg #[(.slice (some ⟨w.heap.size+1+1+1,0,none⟩) ts.length ts.length),.slice (some ⟨w1.heap.size,0,none⟩) fs.length fs.length]) (by simp[results,Tryz.results7,go_sem,r1]) rfl ⟨w.heap.size+1+1+1,w1.heap.size,by omega,by omega,rfl,?_,?_,?_⟩
 ·exact (hst2.above ((((aL.refl _ _).setCell (by simp) _).setCell (by simp) _).setCell (by simp) _)).low (by omega)
 ·exact (hfn.above ((((aL.refl _ _).setCell (by simp;omega) _).setCell (by simp;omega) _).setCell (by simp;omega) _)).low (by omega)
 ·exact ((hb3.setCell (by simp;omega) _).setCell (by simp) _).setCell (by simp) _
theorem exits1_any(w:World):Calls Tryz.prog 131 #[.int .i64 1] w fun e w'=>e=.returned (.bool false)/\w'=w:=by
 go_enter Tryz.func131,Tryz.ntmps131
 go_wp2;go_ret
 exact⟨rfl,rfl⟩
theorem exits2_any(w:World):Calls Tryz.prog 131 #[.int .i64 2] w fun e w'=>e=.returned (.bool false)/\w'=w:=by
 go_enter Tryz.func131,Tryz.ntmps131
 go_wp2;go_ret
 exact⟨rfl,rfl⟩
theorem exits3_any(w:World):Calls Tryz.prog 131 #[.int .i64 3] w fun e w'=>e=.returned (.bool false)/\w'=w:=by
 go_enter Tryz.func131,Tryz.ntmps131
 go_wp2;go_ret
 exact⟨rfl,rfl⟩
theorem exits4_any(w:World):Calls Tryz.prog 131 #[.int .i64 4] w fun e w'=>e=.returned (.bool false)/\w'=w:=by
 go_enter Tryz.func131,Tryz.ntmps131
 go_wp2;go_ret
 exact⟨rfl,rfl⟩
theorem exits5_any(w:World):Calls Tryz.prog 131 #[.int .i64 5] w fun e w'=>e=.returned (.bool true)/\w'=w:=by
 go_enter Tryz.func131,Tryz.ntmps131
 go_wp2;go_ret
 exact⟨rfl,rfl⟩
theorem exits6_any(w:World):Calls Tryz.prog 131 #[.int .i64 6] w fun e w'=>e=.returned (.bool false)/\w'=w:=by
 go_enter Tryz.func131,Tryz.ntmps131
 go_wp2;go_ret
 exact⟨rfl,rfl⟩
theorem exits7_any(w:World):Calls Tryz.prog 131 #[.int .i64 7] w fun e w'=>e=.returned (.bool true)/\w'=w:=by
 go_enter Tryz.func131,Tryz.ntmps131
 go_wp2;go_ret
 exact⟨rfl,rfl⟩
theorem exits8_any(w:World):Calls Tryz.prog 131 #[.int .i64 8] w fun e w'=>e=.returned (.bool true)/\w'=w:=by
 go_enter Tryz.func131,Tryz.ntmps131
 go_wp2;go_ret
 exact⟨rfl,rfl⟩
theorem exits9_any(w:World):Calls Tryz.prog 131 #[.int .i64 9] w fun e w'=>e=.returned (.bool true)/\w'=w:=by
 go_enter Tryz.func131,Tryz.ntmps131
 go_wp2;go_ret
 exact⟨rfl,rfl⟩
theorem exits10_any(w:World):Calls Tryz.prog 131 #[.int .i64 10] w fun e w'=>e=.returned (.bool true)/\w'=w:=by
 go_enter Tryz.func131,Tryz.ntmps131
 go_wp2;go_ret
 exact⟨rfl,rfl⟩
theorem exits11_any(w:World):Calls Tryz.prog 131 #[.int .i64 11] w fun e w'=>e=.returned (.bool false)/\w'=w:=by
 go_enter Tryz.func131,Tryz.ntmps131
 go_wp2;go_ret
 exact⟨rfl,rfl⟩
theorem exits12_any(w:World):Calls Tryz.prog 131 #[.int .i64 12] w fun e w'=>e=.returned (.bool true)/\w'=w:=by
 go_enter Tryz.func131,Tryz.ntmps131
 go_wp2;go_ret
 exact⟨rfl,rfl⟩
theorem exits13_any(w:World):Calls Tryz.prog 131 #[.int .i64 13] w fun e w'=>e=.returned (.bool true)/\w'=w:=by
 go_enter Tryz.func131,Tryz.ntmps131
 go_wp2;go_ret
 exact⟨rfl,rfl⟩
theorem exits14_any(w:World):Calls Tryz.prog 131 #[.int .i64 14] w fun e w'=>e=.returned (.bool true)/\w'=w:=by
 go_enter Tryz.func131,Tryz.ntmps131
 go_wp2;go_ret
 exact⟨rfl,rfl⟩
theorem exits15_any(w:World):Calls Tryz.prog 131 #[.int .i64 15] w fun e w'=>e=.returned (.bool true)/\w'=w:=by
 go_enter Tryz.func131,Tryz.ntmps131
 go_wp2;go_ret
 exact⟨rfl,rfl⟩
theorem exits16_any(w:World):Calls Tryz.prog 131 #[.int .i64 16] w fun e w'=>e=.returned (.bool false)/\w'=w:=by
 go_enter Tryz.func131,Tryz.ntmps131
 go_wp2;go_ret
 exact⟨rfl,rfl⟩
theorem exits17_any(w:World):Calls Tryz.prog 131 #[.int .i64 17] w fun e w'=>e=.returned (.bool true)/\w'=w:=by
 go_enter Tryz.func131,Tryz.ntmps131
 go_wp2;go_ret
 exact⟨rfl,rfl⟩
theorem exits18_any(w:World):Calls Tryz.prog 131 #[.int .i64 18] w fun e w'=>e=.returned (.bool true)/\w'=w:=by
 go_enter Tryz.func131,Tryz.ntmps131
 go_wp2;go_ret
 exact⟨rfl,rfl⟩
theorem exits19_any(w:World):Calls Tryz.prog 131 #[.int .i64 19] w fun e w'=>e=.returned (.bool true)/\w'=w:=by
 go_enter Tryz.func131,Tryz.ntmps131
 go_wp2;go_ret
 exact⟨rfl,rfl⟩
theorem exits20_any(w:World):Calls Tryz.prog 131 #[.int .i64 20] w fun e w'=>e=.returned (.bool true)/\w'=w:=by
 go_enter Tryz.func131,Tryz.ntmps131
 go_wp2;go_ret
 exact⟨rfl,rfl⟩
theorem exits21_any(w:World):Calls Tryz.prog 131 #[.int .i64 21] w fun e w'=>e=.returned (.bool false)/\w'=w:=by
 go_enter Tryz.func131,Tryz.ntmps131
 go_wp2;go_ret
 exact⟨rfl,rfl⟩
theorem exits22_any(w:World):Calls Tryz.prog 131 #[.int .i64 22] w fun e w'=>e=.returned (.bool true)/\w'=w:=by
 go_enter Tryz.func131,Tryz.ntmps131
 go_wp2;go_ret
 exact⟨rfl,rfl⟩
theorem exits23_any(w:World):Calls Tryz.prog 131 #[.int .i64 23] w fun e w'=>e=.returned (.bool false)/\w'=w:=by
 go_enter Tryz.func131,Tryz.ntmps131
 go_wp2;go_ret
 exact⟨rfl,rfl⟩
theorem exits24_any(w:World):Calls Tryz.prog 131 #[.int .i64 24] w fun e w'=>e=.returned (.bool true)/\w'=w:=by
 go_enter Tryz.func131,Tryz.ntmps131
 go_wp2;go_ret
 exact⟨rfl,rfl⟩
theorem exits25_any(w:World):Calls Tryz.prog 131 #[.int .i64 25] w fun e w'=>e=.returned (.bool true)/\w'=w:=by
 go_enter Tryz.func131,Tryz.ntmps131
 go_wp2;go_ret
 exact⟨rfl,rfl⟩
theorem exits26_any(w:World):Calls Tryz.prog 131 #[.int .i64 26] w fun e w'=>e=.returned (.bool true)/\w'=w:=by
 go_enter Tryz.func131,Tryz.ntmps131
 go_wp2;go_ret
 exact⟨rfl,rfl⟩
theorem exits27_any(w:World):Calls Tryz.prog 131 #[.int .i64 27] w fun e w'=>e=.returned (.bool false)/\w'=w:=by
 go_enter Tryz.func131,Tryz.ntmps131
 go_wp2;go_ret
 exact⟨rfl,rfl⟩
theorem exits28_any(w:World):Calls Tryz.prog 131 #[.int .i64 28] w fun e w'=>e=.returned (.bool true)/\w'=w:=by
 go_enter Tryz.func131,Tryz.ntmps131
 go_wp2;go_ret
 exact⟨rfl,rfl⟩
theorem exits29_any(w:World):Calls Tryz.prog 131 #[.int .i64 29] w fun e w'=>e=.returned (.bool true)/\w'=w:=by
 go_enter Tryz.func131,Tryz.ntmps131
 go_wp2;go_ret
 exact⟨rfl,rfl⟩
theorem exitsNo_any(op:Int)(w:World)(h:op<1\/29<op):Calls Tryz.prog 131 #[.int .i64 op] w fun e w'=>e=.returned (.bool false)/\w'=w:=by
 have h5:(op == 5)=false:=by simp;omega
 have h7:(op == 7)=false:=by simp;omega
 have h8:(op == 8)=false:=by simp;omega
 have h9:(op == 9)=false:=by simp;omega
 have h10:(op == 10)=false:=by simp;omega
 have h12:(op == 12)=false:=by simp;omega
 have h13:(op == 13)=false:=by simp;omega
 have h14:(op == 14)=false:=by simp;omega
 have h15:(op == 15)=false:=by simp;omega
 have h17:(op == 17)=false:=by simp;omega
 have h18:(op == 18)=false:=by simp;omega
 have h19:(op == 19)=false:=by simp;omega
 have h20:(op == 20)=false:=by simp;omega
 have h22:(op == 22)=false:=by simp;omega
 have h24:(op == 24)=false:=by simp;omega
 have h25:(op == 25)=false:=by simp;omega
 have h26:(op == 26)=false:=by simp;omega
 have h28:(op == 28)=false:=by simp;omega
 have h29:(op == 29)=false:=by simp;omega
 go_enter Tryz.func131,Tryz.ntmps131
 go_wp2;go_ret
 exact⟨rfl,rfl⟩
section
variable {P:Program} {ops:Array Oper} {Q:Exit->Act->World->Prop} {md:Region.Mode} {S:World->Prop}
theorem aF{i:Nat}{oi:Oper}{v:Value}{n:Nat}{listed:Array Bool}{a:Act}{w:World}(hi:ops[i]?=some oi)
  (hs:Region.noSelect ops=true) (hf:Region.free md ops listed i=true) (hr:(Region.ready md ops listed).contains i=true)
  (hQ:∀c a w,Q (.panic c) (a.put oi.dst v) w->Q (.panic c) a w) (hw:Region.wanted oi (yielded ops a.tmps)=true)
  (hy:∀w,S w->(execOp a.eval oi).run P w=.ok (.value v) w) (hS:S w)
  (h:wpAnyH P md ops Q S n (listed.setIfInBounds i true) (a.put oi.dst v) w):wpAnyH P md ops Q S (n+1) listed a w:=
 wpAnyH_take hi hs hf hr hQ (.inl ⟨hw,hy⟩) hS h
theorem ba{i:Nat}{oi:Oper}{n:Nat}{listed:Array Bool}{a:Act}{w:World}(hi:ops[i]?=some oi)
  (hs:Region.noSelect ops=true) (hf:Region.free md ops listed i=true) (hr:(Region.ready md ops listed).contains i=true)
  (hQ:∀c a w,Q (.panic c) (a.put oi.dst undef) w->Q (.panic c) a w) (hw:Region.wanted oi (yielded ops a.tmps)=false) (hS:S w)
  (h:wpAnyH P md ops Q S n (listed.setIfInBounds i true) (a.put oi.dst undef) w):wpAnyH P md ops Q S (n+1) listed a w:=
 wpAnyH_take hi hs hf hr hQ (.inr ⟨hw,rfl⟩) hS h
theorem dB{i:Nat}{o:Oper}{n:Nat}{listed:Array Bool}{a:Act}{w:World}(hr:Region.ready md ops listed=[i])(ho:ops[i]?=some o)
  (h:∀K':Act->World->Prop,Shut (∀a w',S w'->wpAnyH P md ops Q S n (listed.setIfInBounds i true) a w'->K' a w')->if Region.wanted o (yielded ops a.tmps)=true then Oper.wp P o a w K' Q else K' (a.put o.dst undef) w) :
  wpAnyH P md ops Q S (n+1) listed a w:=by
 refine⟨fun h0=>(by rw[hr] at h0;cases h0),fun j hj=>?_⟩;rw[hr] at hj;obtain rfl:=List.mem_singleton.1 hj;exact wpOp_step ho (fun K' hK=>h K' (fun a w hS hW=>hK a w ⟨hS,hW⟩))
theorem eO{i:Nat}{o:Oper}{n:Nat}{listed:Array Bool}{a:Act}{w:World}(ho:ops[i]?=some o)
  (h:∀K':Act->World->Prop,Shut (∀a w',S w'->wpAnyH P md ops Q S n (listed.setIfInBounds i true) a w'->K' a w')->if Region.wanted o (yielded ops a.tmps)=true then Oper.wp P o a w K' Q else K' (a.put o.dst undef) w) :
  wpOp P ops Q i (fun a' w'=>S w'/\wpAnyH P md ops Q S n (listed.setIfInBounds i true) a' w') a w:=
 wpOp_step ho (fun K' hK=>h K' (fun a w hS hW=>hK a w ⟨hS,hW⟩))
theorem fy{id:Nat}{a:Act}{w:World}(S:World->Prop)(hm:P.follows .mixedOrders=true)(h:wpAnyH P .any ops Q S ops.size (Array.replicate ops.size false) a w.drew):(Code.region id ops true).wp P Q a w:=
 wp_region_held hm h
end
end Go.Proofs.YtdlkbbgmjilccaaGreatDoor
