/- RV2 -/
import Derived.Test.YtbjmgmmekmfjhaaGreatDoorRV1
set_option maxHeartbeats 32000000
set_option maxRecDepth 100000
namespace Go.Proofs.YtbjmgmmekmfjhaaGreatDoor
open Go.RowKit
def bw (s:Nat×Nat)(k:Nat):Nat×Nat:=if k<64 then (s.1 ||| 2 ^ k,s.2) else (s.1,s.2 ||| 2 ^ (k-64))
def bhas (s:Nat×Nat)(k:Nat):Bool:=if k<64 then s.1.testBit k else s.2.testBit (k-64)
def bok (s:Nat×Nat):Prop:=s.1<2 ^ 64/\s.2<2 ^ 64
def bv (s:Nat×Nat):Value:=.agg #[.int .u64 (s.1:Int),.int .u64 (s.2:Int)]
theorem gX{s:Nat×Nat}{k:Nat}(h:bok s)(hk:k<128):bok (bw s k):=by
 unfold bw;split
 ·exact⟨Nat.or_lt_two_pow h.1 (Nat.pow_lt_pow_right (by decide) (by omega)),h.2⟩
 ·exact⟨h.1,Nat.or_lt_two_pow h.2 (Nat.pow_lt_pow_right (by decide) (by omega))⟩
theorem eH{s:Nat×Nat}{k j:Nat}(_:k<128)(_:j<128):bhas (bw s k) j=(bhas s j || decide (k=j)):=by
 unfold bw bhas;by_cases h:k<64
 ·rw[if_pos h];by_cases h2:j<64
  ·simp only[if_pos h2,Nat.testBit_or,Nat.testBit_two_pow]
  ·simp only[if_neg h2]
   rw[decide_eq_false (by omega),Bool.or_false]
 ·rw[if_neg h];by_cases h2:j<64
  ·simp only[if_pos h2]
   rw[decide_eq_false (by omega),Bool.or_false]
  ·simp only[if_neg h2,Nat.testBit_or,Nat.testBit_two_pow]
   congr 1
   apply decide_eq_decide.2
   omega
theorem bhas_zero(j:Nat):bhas (0,0) j=false:=by simp[bhas]
theorem fD{a:Nat}(h:a<2 ^ 64):IntKind.u64.wrap (a:Int)=(a:Int):=by
 rw[IntKind.wrap_u64];have h':a<18446744073709551616:=h;omega
theorem wrap_pow{k:Nat}(h:k<64):IntKind.u64.wrap (2 ^ k)=((2 ^ k:Nat):Int):=by
 have:=fD (a:=2 ^ k) (Nat.pow_lt_pow_right (by decide) h);push_cast at this ⊢
 exact this
theorem bits_or{a b:Nat}(ha:a<2 ^ 64)(hb:b<2 ^ 64):bits .or .u64 (a:Int) (b:Int)=((a ||| b:Nat):Int):=by
 have hlt:=Nat.or_lt_two_pow ha hb;simp only[bits]
 show IntKind.u64.wrap (((BitVec.ofInt 64 (a:Int)) ||| (BitVec.ofInt 64 (b:Int))).toNat:Int)=_
 rw[BitVec.ofInt_natCast,BitVec.ofInt_natCast,BitVec.toNat_or,BitVec.toNat_ofNat,BitVec.toNat_ofNat,Nat.mod_eq_of_lt ha,Nat.mod_eq_of_lt hb];exact fD hlt
theorem bw_lo{x y k:Nat}(h:k<64):bw (x,y) k=(x ||| 2 ^ k,y):=if_pos h
theorem bw_hi{x y k:Nat}(h:¬k<64):bw (x,y) k=(x,y ||| 2 ^ (k-64)):=if_neg h
theorem with_any(s:Nat×Nat)(k:Nat)(w:World)(hs:bok s)(hk:k<128) :
  Calls Tryz.prog 218 #[bv s,.int .i64 (k:Int)] w fun e w'=>e=.returned (bv (bw s k))/\Below w.heap.size w w':=by
 obtain⟨x,y⟩:=s;by_cases h:k<64
 ·have HO:Hid (bits .or .u64 (x:Int) (IntKind.u64.wrap (2 ^ k))=((x ||| 2 ^ k:Nat):Int)):=by
   show _=_
   rw[wrap_pow h];exact bits_or hs.1 (Nat.pow_lt_pow_right (by decide) h)
  rw[bw_lo h];unfold bv;dsimp only
  have h1:(k:Int) / 64=0:=by omega
  have h2:k / 64=0:=by omega
  have h3:(k:Int) % 64=k:=by omega
  have h4:k % 64=k:=by omega
  go_enter Tryz.func218,Tryz.ntmps218
  go_wp2;go_region
  go_wp2;rw[HO.out];refine bodyPost_ret (v:=.agg #[.int .u64 ((x ||| 2 ^ k:Nat):Int),.int .u64 (y:Int)]) (by simp[results,Tryz.results218,go_sem]) rfl ⟨rfl,?_⟩
  exact ((b_r.alloc n_l _).alloc (by simp) _).drew
 ·have HO:Hid (bits .or .u64 (y:Int) (IntKind.u64.wrap (2 ^ (k-64)))=((y ||| 2 ^ (k-64):Nat):Int)):=by
   show _=_
   rw[wrap_pow (by omega)];exact bits_or hs.2 (Nat.pow_lt_pow_right (by decide) (by omega))
  rw[bw_hi h];unfold bv;dsimp only
  have h1:(k:Int) / 64=1:=by omega
  have h2:k / 64=1:=by omega
  have h3:(k:Int) % 64=(k:Int)-64:=by omega
  have h4:k % 64=k-64:=by omega
  go_enter Tryz.func218,Tryz.ntmps218
  go_wp2;go_region
  go_wp2;rw[HO.out];refine bodyPost_ret (v:=.agg #[.int .u64 (x:Int),.int .u64 ((y ||| 2 ^ (k-64):Nat):Int)]) (by simp[results,Tryz.results218,go_sem]) rfl ⟨rfl,?_⟩
  exact ((b_r.alloc n_l _).alloc (by simp) _).drew
theorem low_form:∀(x:Nat),x≠0->∃k m,x=2 ^ (k+1)*m+2 ^ k:=by
 intro x;induction x using Nat.strongRecOn with
 | _ x ih=>
  intro h;by_cases h2:x % 2=1
  ·exact⟨0,x / 2,by simp;omega⟩
  ·obtain⟨k,m,e⟩:=ih (x / 2) (by omega) (by omega);refine⟨k+1,m,?_⟩
   have:x=2*(x / 2):=by omega
   rw[this,e,Nat.mul_add,Nat.pow_succ 2 (k+1),Nat.pow_succ 2 k];rw[<-Nat.mul_assoc,Nat.mul_comm 2 (2 ^ k*2),Nat.mul_comm 2 (2 ^ k)]
theorem eR(k m j:Nat):(2 ^ (k+1)*m+2 ^ k).testBit j=if j<k+1 then decide (k=j) else m.testBit (j-(k+1)):=by
 rw[Nat.testBit_two_pow_mul_add m (Nat.pow_lt_pow_right (by decide) (by omega)) j,Nat.testBit_two_pow]
theorem form_less(k m:Nat):2 ^ (k+1)*m+2 ^ k-1=2 ^ (k+1)*m+(2 ^ k-1):=by
 have:=Nat.two_pow_pos k;omega
theorem form_bit1(k m j:Nat):(2 ^ (k+1)*m+2 ^ k-1).testBit j=if j<k+1 then decide (j<k) else m.testBit (j-(k+1)):=by
 rw[form_less,Nat.testBit_two_pow_mul_add m (Nat.lt_of_le_of_lt (Nat.sub_le _ _) (Nat.pow_lt_pow_right (by decide) (by omega))) j,Nat.testBit_two_pow_sub_one]
theorem clear_low(k m j:Nat):((2 ^ (k+1)*m+2 ^ k) &&& (2 ^ (k+1)*m+2 ^ k-1)).testBit j=(decide (k<j) && (2 ^ (k+1)*m+2 ^ k).testBit j):=by
 rw[Nat.testBit_and,eR,form_bit1];by_cases h:j<k+1
 ·rw[if_pos h,if_pos h];by_cases e:k=j
  ·subst e;simp
  ·rw[decide_eq_false e];simp
 ·rw[if_neg h,if_neg h,decide_eq_true (show k<j by omega)]
  simp
theorem keep_low{k m:Nat}(h:2 ^ (k+1)*m+2 ^ k<2 ^ 64):(2 ^ (k+1)*m+2 ^ k) &&& (2 ^ 64-(2 ^ (k+1)*m+2 ^ k))=2 ^ k:=by
 have hp:=Nat.two_pow_pos k;have hk:k<64:=by
  by_cases hk:k<64
  ·exact hk
  ·have:=Nat.pow_le_pow_right (n:=2) (by decide) (show 64<=k by omega)
   omega
 obtain⟨y,hy⟩:∃y,y=2 ^ (k+1)*m+2 ^ k-1:=⟨_,rfl⟩;have hx:2 ^ (k+1)*m+2 ^ k=y+1:=by omega
 apply Nat.eq_of_testBit_eq
 intro j;rw[Nat.testBit_and];have e1:(2 ^ 64-(2 ^ (k+1)*m+2 ^ k)).testBit j=(decide (j<64) && !y.testBit j):=by
  rw[hx];exact Nat.testBit_two_pow_sub_succ (by omega) j
 rw[e1,eR,hy,form_bit1,Nat.testBit_two_pow];by_cases h:j<k+1
 ·rw[if_pos h,if_pos h,decide_eq_true (show j<64 by omega)]
  by_cases e:k=j
  ·subst e;simp
  ·rw[decide_eq_false e];simp
 ·rw[if_neg h,if_neg h,decide_eq_false (show ¬k=j by omega)]
  cases m.testBit (j-(k+1))<;>simp
theorem bits_and{a b:Nat}(ha:a<2 ^ 64)(hb:b<2 ^ 64):bits .and .u64 (a:Int) (b:Int)=((a &&& b:Nat):Int):=by
 have hlt:a &&& b<2 ^ 64:=Nat.lt_of_le_of_lt Nat.and_le_left ha;simp only[bits]
 show IntKind.u64.wrap (((BitVec.ofInt 64 (a:Int)) &&& (BitVec.ofInt 64 (b:Int))).toNat:Int)=_
 rw[BitVec.ofInt_natCast,BitVec.ofInt_natCast,BitVec.toNat_and,BitVec.toNat_ofNat,BitVec.toNat_ofNat,Nat.mod_eq_of_lt ha,Nat.mod_eq_of_lt hb];exact fD hlt
def dbI (k:Nat):Nat:=(2 ^ k*285870213051353865 % 2 ^ 64) / 2 ^ 58
def dbT:List Nat:=[0,1,56,2,57,49,28,3,61,58,42,50,38,29,17,4,62,47,59,36,45,43,51,22,53,39,33,30,24,18,12,5,63,55,48,27,60,41,37,16,46,35,44,21,52,32,23,11,54,26,40,15,34,20,31,10,25,14,19,9,13,8,7,6]
theorem dbT_at:∀k,k<64->dbT[dbI k]?=some k:=by decide +kernel
theorem dbI_lt(k:Nat):dbI k<64:=by
 unfold dbI;have:=Nat.mod_lt (2 ^ k*285870213051353865) (show 0<2 ^ 64 by decide)
 omega
def DB (W:World):Prop:=∀i,i<64->W.cell? ⟨1,i,none⟩=some (.int .u8 ((dbT[i]?.getD 0:Nat):Int))
theorem DB.mono{W W':World}(h:DB W)(hb:Below W.heap.size W W'):DB W':=fun i hi=>cell_later hb (h i hi)
theorem tz_walk(x y z q k:Nat)(W:World)(hx0:((x:Int) == 0)=false)(hn:IntKind.u64.wrap (-(x:Int))=(y:Int))(ha:bits .and .u64 (x:Int) (y:Int)=(z:Int))
  (hw:IntKind.u64.wrap ((z:Int)*285870213051353865) / 288230376151711744=(q:Int))(hq:q<64)(c1:W.cell? ⟨1,q,none⟩=some (.int .u8 (k:Int)))(hk:k<64) :
  Calls Tryz.prog 268 #[.int .u64 (x:Int)] W fun e W'=>e=.returned (.int .i64 (k:Int))/\W'=W:=by
 go_enter Tryz.func268,Tryz.ntmps268
 go_wp2;go_ret
 exact⟨rfl,rfl⟩
theorem form_lt{k m:Nat}(h:2 ^ (k+1)*m+2 ^ k<2 ^ 64):k<64:=by
 by_cases hk:k<64
 ·exact hk
 ·have:=Nat.pow_le_pow_right (n:=2) (by decide) (show 64<=k by omega)
  omega
theorem wrap_neg{x:Nat}(h0:x≠0)(h:x<18446744073709551616):IntKind.u64.wrap (-(x:Int))=((18446744073709551616-x:Nat):Int):=by
 rw[IntKind.wrap_u64];omega
theorem wrap_db(z:Nat):IntKind.u64.wrap ((z:Int)*285870213051353865) / 288230376151711744=(((z*285870213051353865 % 18446744073709551616) / 288230376151711744:Nat):Int):=by
 rw[IntKind.wrap_u64];omega
theorem dbI_eq(k:Nat):(2 ^ k*285870213051353865 % 18446744073709551616) / 288230376151711744=dbI k:=rfl
theorem sub_lt{x:Nat}(h0:x≠0)(h:x<18446744073709551616):18446744073709551616-x<18446744073709551616:=by omega
theorem tz_any(x k m:Nat)(W:World)(hx:x=2 ^ (k+1)*m+2 ^ k)(hlt:x<2 ^ 64)(hD:DB W) :
  Calls Tryz.prog 268 #[.int .u64 (x:Int)] W fun e W'=>e=.returned (.int .i64 (k:Int))/\W'=W:=by
 have hk:k<64:=form_lt (m:=m) (by rw[<-hx];exact hlt);have hx0:x≠0:=by
  have:=Nat.two_pow_pos k;omega
 have hx1:¬(x:Int)=0:=by omega
 have hlt':x<18446744073709551616:=hlt;refine tz_walk x (18446744073709551616-x) (2 ^ k) (dbI k) k W (by simpa using hx1) (wrap_neg hx0 hlt') ?_ (by rw[wrap_db,dbI_eq]) (dbI_lt k) (by rw[hD _ (dbI_lt k),dbT_at k hk];rfl) hk;rw[bits_and hlt (sub_lt hx0 hlt')];have:=keep_low (k:=k) (m:=m) (by rw[<-hx];exact hlt);rw[<-hx] at this;exact congrArg _ this
structure Vl where
 k:Int
 n:Int
 s:ByteArray
structure Fr where
 fn:Int
 pc:Int
 locals:List Vl
 stack:List Vl
def aQ (w:World)(lo:Nat)(a:Option Addr)(vs:List Vl):Prop:=
 ∀i (h:i<vs.length),∃b off,a=some ⟨b,off,none⟩/\lo<=b/\w.cell? ⟨b,off+i*3,none⟩=some (.int .i64 vs[i].k)/\w.cell? ⟨b,off+i*3+1,none⟩=some (.int .i64 vs[i].n)/\w.cell? ⟨b,off+i*3+2,none⟩=some (.string vs[i].s)
def fJ (w:World)(lo:Nat)(a:Option Addr)(fr:List Fr):Prop:=
 ∀i (h:i<fr.length),∃b off la lc sa sc,a=some ⟨b,off,none⟩/\lo<=b/\w.cell? ⟨b,off+i*4,none⟩=some (.int .i64 fr[i].fn)/\w.cell? ⟨b,off+i*4+1,none⟩=some (.int .i64 fr[i].pc) /\
  w.cell? ⟨b,off+i*4+2,none⟩=some (.slice la fr[i].locals.length lc)/\w.cell? ⟨b,off+i*4+3,none⟩=some (.slice sa fr[i].stack.length sc)/\aQ w lo la fr[i].locals/\aQ w lo sa fr[i].stack
def bT (w:World)(lo:Nat)(a:Option Addr)(rs:List (List Vl)):Prop:=
 ∀i (h:i<rs.length),∃b off fa fc,a=some ⟨b,off,none⟩/\lo<=b/\w.cell? ⟨b,off+i,none⟩=some (.slice fa rs[i].length fc)/\aQ w lo fa rs[i]
theorem aQ.mono{w w':World}{lo:Nat}{a:Option Addr}{vs:List Vl}(h:aQ w lo a vs)(hb:Below w.heap.size w w'):aQ w' lo a vs:=by
 intro i hi;obtain⟨b,off,h1,h2,h3,h4,h5⟩:=h i hi;exact⟨b,off,h1,h2,cell_later hb h3,cell_later hb h4,cell_later hb h5⟩
theorem fJ.mono{w w':World}{lo:Nat}{a:Option Addr}{fr:List Fr}(h:fJ w lo a fr)(hb:Below w.heap.size w w'):fJ w' lo a fr:=by
 intro i hi;obtain⟨b,off,la,lc,sa,sc,h1,h2,h3,h4,h5,h6,h7,h8⟩:=h i hi;exact⟨b,off,la,lc,sa,sc,h1,h2,cell_later hb h3,cell_later hb h4,cell_later hb h5,cell_later hb h6,h7.mono hb,h8.mono hb⟩
theorem bT.mono{w w':World}{lo:Nat}{a:Option Addr}{rs:List (List Vl)}(h:bT w lo a rs)(hb:Below w.heap.size w w'):bT w' lo a rs:=by
 intro i hi;obtain⟨b,off,fa,fc,h1,h2,h3,h4⟩:=h i hi;exact⟨b,off,fa,fc,h1,h2,cell_later hb h3,h4.mono hb⟩
theorem aQ.above{w w':World}{lo:Nat}{a:Option Addr}{vs:List Vl}(h:aQ w lo a vs)(hb:aZ lo w w'):aQ w' lo a vs:=by
 intro i hi;obtain⟨b,off,h1,h2,h3,h4,h5⟩:=h i hi;exact⟨b,off,h1,h2,hb.cell h2 h3,hb.cell h2 h4,hb.cell h2 h5⟩
theorem aQ.low{w:World}{lo lo':Nat}{a:Option Addr}{vs:List Vl}(h:aQ w lo a vs)(hl:lo'<=lo):aQ w lo' a vs:=fun i hi=>by
 obtain⟨b,off,h1,h2,h3⟩:=h i hi;exact⟨b,off,h1,by omega,h3⟩
theorem bT.low{w:World}{lo lo':Nat}{a:Option Addr}{rs:List (List Vl)}(h:bT w lo a rs)(hl:lo'<=lo):bT w lo' a rs:=fun i hi=>by
 obtain⟨b,off,fa,fc,h1,h2,h3,h4⟩:=h i hi;exact⟨b,off,fa,fc,h1,by omega,h3,h4.low hl⟩
def cW (vs:List Vl):Prop:=vs.length<=maxLen/\∀v∈vs,v.s.size<=maxLen
def aE (vs:List Vl):Prop:=vs.length<=1048576/\∀v∈vs,v.s.size<=1048576
theorem toIns_any(o a:Int)(w:World) :
  Calls Tryz.prog 210 #[.agg #[.int .i64 o,.int .i64 a]] w fun e w'=>e=.returned (.agg #[.int .i64 o,.int .i64 a])/\Below w.heap.size w w':=by
 go_enter Tryz.func210,Tryz.ntmps210
 go_wp2;refine bodyPost_ret (v:=.agg #[.int .i64 o,.int .i64 a]) (by simp[results,Tryz.results210,go_sem]) rfl ⟨rfl,?_⟩;exact ((b_r.alloc n_l _).alloc (by simp) _).alloc (by simp;omega) _
theorem info9:(Tryz.prog.info? 9).map (fun i=>(i.zero,i.size,i.bytes))=some (some (.string ByteArray.empty),1,16):=by kernel_rfl
theorem toStringS_any(a:Option Addr)(ss:List ByteArray)(cap:Nat)(w:World)(hn:ss.length<=1048576)(hm:bc w 0 a ss) :
  Calls Tryz.prog 51 #[.slice a ss.length cap] w fun e w'=>e=.returned (.slice (some ⟨w.heap.size,0,none⟩) ss.length ss.length)/\bc w' w.heap.size (some ⟨w.heap.size,0,none⟩) ss/\Below w.heap.size w w':=by
 obtain⟨i0,hi,hz0,hz1,hz2⟩:=info_parts info9;go_enter Tryz.func51,Tryz.ntmps51
 go_wp2_with (first | (at_make;refine wpList_make_full _ rfl _ _ 22 rfl w.heap.size 9 i0 (.string ByteArray.empty) 1 Tryz.underlying22 hi hz0 hz1 _ _ _ _ ss.length rfl rfl rfl rfl (by rw[hz2];omega) (by unfold maxLen;omega) n_l ?_;intro w1 hown hgrow))
 obtain⟨cur0,hblk,hsz⟩:=aY hown;have hb0:Below w.heap.size w w1:=b_r.grown hgrow n_l (by intro k hk;cases hk);clear hown hgrow hi hz0 hz1 hz2;go_loopw [4] (fun i wr=>∃(k:Nat) (cur:Array Value),k<=ss.length/\i=.int .i64 k/\wr.heap[w.heap.size]?=some (.cells cur 9 (0,0))/\cur.size=ss.length*1/\(∀j (hj:j<ss.length),j<k->cur[j]?=some (.string ss[j]))/\Below w.heap.size w wr) (fun i _=>ss.length-(intOf i).toNat)
 case atStart=>exact⟨0,cur0,by omega,rfl,hblk,hsz,fun j _ h=>by omega,hb0⟩
 case round=>
  obtain⟨k,cur,hk,rfl,hblk,hsz,hdone,hb⟩:=hrel;by_cases hlt:k<ss.length
  ·obtain⟨b,off,rfl,-,c1⟩:=hm k hlt;have c1':=cell_later hb c1;clear c1;have hfz:=aq hblk k;have hcl:wr.cell? ⟨w.heap.size,k,none⟩=some cur[k]:=by rw[ae hblk k];simp
   go_wp2;go_roundw
   case rel=>
    refine⟨k+1,cur.setIfInBounds k (.string ss[k]),by omega,by go_num,ak hblk _,by simpa using hsz,?_,hb.setCell n_l _⟩;intro j hj hjk;by_cases e:j=k
    ·subst e;exact aC _ (by omega)
    ·rw[aj _ e];exact hdone j hj (by omega)
   case measure=>simp[intOf];omega
  ·go_wp2;go_ret
   exact⟨rfl,fun j hj=>⟨w.heap.size,0,rfl,Nat.le_refl _,by rw[ae hblk,Nat.zero_add];exact hdone j hj (by omega)⟩,hb⟩
theorem info263:(Tryz.prog.info? 263).map (fun i=>(i.zero,i.size,i.bytes))=some (some (.agg #[.int .i64 0,.int .i64 0]),2,16):=by kernel_rfl
theorem toInsS_any(a:Option Addr)(xs:List (Int×Int))(cap:Nat)(w:World)(hn:xs.length<=1048576)(hm:bn w 0 a xs) :
  Calls Tryz.prog 153 #[.slice a xs.length cap] w fun e w'=>e=.returned (.slice (some ⟨w.heap.size,0,none⟩) xs.length xs.length)/\bn w' w.heap.size (some ⟨w.heap.size,0,none⟩) xs/\Below w.heap.size w w':=by
 obtain⟨i0,hi,hz0,hz1,hz2⟩:=info_parts info263;go_enter Tryz.func153,Tryz.ntmps153
 go_wp2_with (first | (at_make;refine wpList_make_full _ rfl _ _ 158 rfl w.heap.size 263 i0 (.agg #[.int .i64 0,.int .i64 0]) 2 Tryz.underlying158 hi hz0 hz1 _ _ _ _ xs.length rfl rfl rfl rfl (by rw[hz2];omega) (by unfold maxLen;omega) n_l ?_;intro w1 hown hgrow))
 obtain⟨cur0,hblk,hsz⟩:=aY hown;have hb0:Below w.heap.size w w1:=b_r.grown hgrow n_l (by intro k hk;cases hk);clear hown hgrow hi hz0 hz1 hz2;go_loopw [4] (fun i wr=>∃(k:Nat) (cur:Array Value),k<=xs.length/\i=.int .i64 k/\wr.heap[w.heap.size]?=some (.cells cur 263 (0,0))/\cur.size=xs.length*2/\(∀j (hj:j<xs.length),j<k->cur[j*2]?=some (.int .i64 xs[j].1)/\cur[j*2+1]?=some (.int .i64 xs[j].2))/\Below w.heap.size w wr) (fun i _=>xs.length-(intOf i).toNat)
 case atStart=>exact⟨0,cur0,by omega,rfl,hblk,hsz,fun j _ h=>by omega,hb0⟩
 case round=>
  obtain⟨k,cur,hk,rfl,hblk,hsz,hdone,hb⟩:=hrel;by_cases hlt:k<xs.length
  ·obtain⟨b,off,rfl,-,c1,c2⟩:=hm k hlt;have c1':=cell_later hb c1;have c2':=cell_later hb c2;clear c1 c2;go_wp2_with fail
   refine (toIns_any _ _ _).mono ?_;rintro e w2 ⟨rfl,hb2⟩;have hblk2:=ah hblk hb2;have hfz:=aq hblk2 (k*2);have hfz2:=aq hblk2 (k*2+1);have hcl:w2.cell? ⟨w.heap.size,k*2,none⟩=some cur[k*2]:=by rw[ae hblk2];simp
   have hcl2:w2.cell? ⟨w.heap.size,k*2+1,none⟩=some cur[k*2+1]:=by rw[ae hblk2];simp
   have hb3:Below w.heap.size w w2:=hb.trans (hb2.mono hb.size);go_wp2;go_roundw
   case rel=>
    refine⟨k+1,(cur.setIfInBounds (k*2) (.int .i64 xs[k].1)).setIfInBounds (k*2+1) (.int .i64 xs[k].2),by omega,by go_num,ak (ak hblk2 _) _,by simpa using hsz,?_,(hb3.setCell n_l _).setCell n_l _⟩;intro j hj hjk;by_cases e:j=k
    ·subst e;exact⟨by rw[aj _ (by omega)];exact aC _ (by omega),aC _ (by simp;omega)⟩
    ·rw[aj _ (by omega),aj _ (by omega),aj _ (by omega),aj _ (by omega)];exact hdone j hj (by omega)
   case measure=>simp[intOf];omega
  ·go_wp2;go_ret
   exact⟨rfl,fun j hj=>⟨w.heap.size,0,rfl,Nat.le_refl _,by rw[ae hblk,Nat.zero_add];exact (hdone j hj (by omega)).1,by rw[ae hblk,Nat.zero_add];exact (hdone j hj (by omega)).2⟩,hb⟩
theorem toFunc_any(p l:Int)(a:Option Addr)(xs:List (Int×Int))(cap:Nat)(w:World)(hn:xs.length<=1048576)(hm:bn w 0 a xs) :
  Calls Tryz.prog 98 #[.agg #[.int .i64 p,.int .i64 l,.slice a xs.length cap]] w fun e w'=>∃g,w.heap.size<=g/\e=.returned (.agg #[.int .i64 p,.int .i64 l,.slice (some ⟨g,0,none⟩) xs.length xs.length])/\bn w' w.heap.size (some ⟨g,0,none⟩) xs/\Below w.heap.size w w':=by
 go_enter Tryz.func98,Tryz.ntmps98
 go_wp2_with fail
 have hbA:Below w.heap.size w (((w.alloc (.cells #[.int .i64 p,.int .i64 l,.slice a xs.length cap] 147)).alloc (.cells #[.int .i64 0,.int .i64 0,.slice none 0 0] 160)).alloc (.cells #[.int .i64 p,.int .i64 l,.slice none 0 0] 160)):=
  ((b_r.alloc n_l _).alloc (by simp) _).alloc (by simp;omega) _
 refine (toInsS_any a xs cap _ hn (hm.mono hbA)).mono ?_;rintro e w1 ⟨rfl,hcode,hb⟩;have hR:=ah (au (al (w.alloc (.cells #[.int .i64 p,.int .i64 l,.slice a xs.length cap] 147)) #[.int .i64 0,.int .i64 0,.slice none 0 0] 160) (.cells #[.int .i64 p,.int .i64 l,.slice none 0 0] 160)) hb;have hO:=ah (al ((w.alloc (.cells #[.int .i64 p,.int .i64 l,.slice a xs.length cap] 147)).alloc (.cells #[.int .i64 0,.int .i64 0,.slice none 0 0] 160)) #[.int .i64 p,.int .i64 l,.slice none 0 0] 160) hb;simp only[World.size_alloc] at hR hO hcode
 have r1:=ae hR;have r2:=aq hR;have o1:=ae hO;have o2:=aq hO;have hb1:Below w.heap.size w w1:=hbA.trans (hb.mono (by simp;omega));go_wp2;refine bodyPost_ret (v:=.agg #[.int .i64 p,.int .i64 l,.slice (some ⟨w.heap.size+1+1+1,0,none⟩) xs.length xs.length]) (by simp[results,Tryz.results98,go_sem,r1]) rfl ⟨_,by omega,rfl,?_,?_⟩
 ·exact (hcode.above (((((aZ.refl _ _).setCell (by simp) _).setCell (by simp) _).setCell (by simp) _).setCell (by simp) _)).low (by omega)
 ·exact (((hb1.setCell (by simp;omega) _).setCell (by simp) _).setCell (by simp) _).setCell (by simp) _
theorem info160:(Tryz.prog.info? 160).map (fun i=>(i.zero,i.size,i.bytes))=some (some (.agg #[.int .i64 0,.int .i64 0,.slice none 0 0]),3,40):=by kernel_rfl
theorem toFuncS_any(a:Option Addr)(fs:List Fn)(cap:Nat)(w:World)(hn:fs.length<=1048576)(hc:∀f∈fs,f.code.length<=1048576)(hm:FnsAt w 0 a fs) :
  Calls Tryz.prog 52 #[.slice a fs.length cap] w fun e w'=>e=.returned (.slice (some ⟨w.heap.size,0,none⟩) fs.length fs.length)/\FnsAt w' w.heap.size (some ⟨w.heap.size,0,none⟩) fs/\Below w.heap.size w w':=by
 obtain⟨i0,hi,hz0,hz1,hz2⟩:=info_parts info160;go_enter Tryz.func52,Tryz.ntmps52
 go_wp2_with (first | (at_make;refine wpList_make_full _ rfl _ _ 34 rfl w.heap.size 160 i0 (.agg #[.int .i64 0,.int .i64 0,.slice none 0 0]) 3 Tryz.underlying34 hi hz0 hz1 _ _ _ _ fs.length rfl rfl rfl rfl (by rw[hz2];omega) (by unfold maxLen;omega) n_l ?_;intro w1 hown hgrow))
 obtain⟨cur0,hblk,hsz⟩:=aY hown;have hb0:Below w.heap.size w w1:=b_r.grown hgrow n_l (by intro k hk;cases hk);clear hown hgrow hi hz0 hz1 hz2
 go_loopw [4] (fun i wr=>∃(k:Nat) (cur:Array Value),k<=fs.length/\i=.int .i64 k/\wr.heap[w.heap.size]?=some (.cells cur 160 (0,0))/\cur.size=fs.length*3 /\
   (∀j (hj:j<fs.length),j<k->cur[j*3]?=some (.int .i64 fs[j].params)/\cur[j*3+1]?=some (.int .i64 fs[j].locals)/\∃g,cur[j*3+2]?=some (.slice (some ⟨g,0,none⟩) fs[j].code.length fs[j].code.length)/\bn wr (w.heap.size+1) (some ⟨g,0,none⟩) fs[j].code)/\Below w.heap.size w wr) (fun i _=>fs.length-(intOf i).toNat)
 case atStart=>exact⟨0,cur0,by omega,rfl,hblk,hsz,fun j _ h=>by omega,hb0⟩
 case round=>
  obtain⟨k,cur,hk,rfl,hblk,hsz,hdone,hb⟩:=hrel;by_cases hlt:k<fs.length
  ·obtain⟨b,off,ca,cc,rfl,-,c1,c2,c3,c4⟩:=hm k hlt;have c1':=cell_later hb c1;have c2':=cell_later hb c2;have c3':=cell_later hb c3;clear c1 c2 c3;have hgs:w.heap.size<wr.heap.size:=by
    rcases Nat.lt_or_ge w.heap.size wr.heap.size with h | h
    ·exact h
    ·rw[Array.getElem?_eq_none h] at hblk;cases hblk
   have hck:=hc fs[k] (g_m hlt);go_wp2_with fail
   refine (toFunc_any _ _ _ _ _ _ hck (c4.mono hb)).mono ?_;rintro e w2 ⟨g,hg,rfl,hcode,hb2⟩;have hblk2:=ah hblk hb2;have hfz:=aq hblk2;have hcl:w2.cell? ⟨w.heap.size,k*3,none⟩=some cur[k*3]:=by rw[ae hblk2];simp
   have hcl2:w2.cell? ⟨w.heap.size,k*3+1,none⟩=some cur[k*3+1]:=by rw[ae hblk2];simp
   have hcl3:w2.cell? ⟨w.heap.size,k*3+2,none⟩=some cur[k*3+2]:=by rw[ae hblk2];simp
   have hb3:Below w.heap.size w w2:=hb.trans (hb2.mono hb.size);go_wp2;go_roundw
   case rel=>
    have hab:aZ (w.heap.size+1) w2 (((w2.setCell ⟨w.heap.size,k*3,none⟩ (.int .i64 fs[k].params)).setCell ⟨w.heap.size,k*3+1,none⟩ (.int .i64 fs[k].locals)).setCell ⟨w.heap.size,k*3+2,none⟩ (.slice (some ⟨g,0,none⟩) fs[k].code.length fs[k].code.length)):=
     (((aZ.refl _ _).setCell (by simp) _).setCell (by simp) _).setCell (by simp) _
    refine⟨k+1,((cur.setIfInBounds (k*3) (.int .i64 fs[k].params)).setIfInBounds (k*3+1) (.int .i64 fs[k].locals)).setIfInBounds (k*3+2) (.slice (some ⟨g,0,none⟩) fs[k].code.length fs[k].code.length),by omega,by go_num,ak (ak (ak hblk2 _) _) _,by simpa using hsz,?_,((hb3.setCell n_l _).setCell n_l _).setCell n_l _⟩;intro j hj hjk;by_cases e:j=k
    ·subst e;refine⟨?_,?_,g,?_,(hcode.low (by omega)).above hab⟩
     ·rw[aj _ (by omega),aj _ (by omega)];exact aC _ (by omega)
     ·rw[aj _ (by omega)];exact aC _ (by simp;omega)
     ·exact aC _ (by simp;omega)
    ·obtain⟨d1,d2,g',d3,d4⟩:=hdone j hj (by omega);refine⟨?_,?_,g',?_,(d4.mono hb2).above hab⟩
     ·rw[aj _ (by omega),aj _ (by omega),aj _ (by omega)];exact d1
     ·rw[aj _ (by omega),aj _ (by omega),aj _ (by omega)];exact d2
     ·rw[aj _ (by omega),aj _ (by omega),aj _ (by omega)];exact d3
   case measure=>simp[intOf];omega
  ·go_wp2;go_ret
   refine⟨rfl,fun j hj=>?_,hb⟩;obtain⟨d1,d2,g',d3,d4⟩:=hdone j hj (by omega);exact⟨w.heap.size,0,some ⟨g',0,none⟩,fs[j].code.length,rfl,Nat.le_refl _,by rw[ae hblk,Nat.zero_add];exact d1,by rw[ae hblk,Nat.zero_add];exact d2,by rw[ae hblk,Nat.zero_add];exact d3,d4.low (by omega)⟩
theorem dD(a a2:Option Addr)(ts:List ByteArray)(fs:List Fn)(cap cap2:Nat)(w:World)(hs:dm ts fs)(hm:bc w 0 a ts)(hm2:FnsAt w 0 a2 fs) :
  Calls Tryz.prog 10 #[.agg #[.slice a ts.length cap,.slice a2 fs.length cap2]] w fun e w'=>∃g g2,w.heap.size<=g/\w.heap.size<=g2/\e=.returned (.agg #[.slice (some ⟨g,0,none⟩) ts.length ts.length,.slice (some ⟨g2,0,none⟩) fs.length fs.length]) /\
   bc w' w.heap.size (some ⟨g,0,none⟩) ts/\FnsAt w' w.heap.size (some ⟨g2,0,none⟩) fs/\Below w.heap.size w w':=by
 go_enter Tryz.func10,Tryz.ntmps10
 go_wp2_with fail
 have hbA:Below w.heap.size w (((w.alloc (.cells #[.slice a ts.length cap,.slice a2 fs.length cap2] 25)).alloc (.cells #[.slice none 0 0,.slice none 0 0] 36)).alloc (.cells #[.slice none 0 0,.slice none 0 0] 36)):=
  ((b_r.alloc n_l _).alloc (by simp) _).alloc (by simp;omega) _
 refine (toStringS_any a ts cap _ hs.texts (hm.mono hbA)).mono ?_;rintro e w1 ⟨rfl,hst,hb⟩;have hB:=ah (au (au (al w #[.slice a ts.length cap,.slice a2 fs.length cap2] 25) (.cells #[.slice none 0 0,.slice none 0 0] 36)) (.cells #[.slice none 0 0,.slice none 0 0] 36)) hb;have hR:=ah (au (al (w.alloc (.cells #[.slice a ts.length cap,.slice a2 fs.length cap2] 25)) #[.slice none 0 0,.slice none 0 0] 36) (.cells #[.slice none 0 0,.slice none 0 0] 36)) hb;have hO:=ah (al ((w.alloc (.cells #[.slice a ts.length cap,.slice a2 fs.length cap2] 25)).alloc (.cells #[.slice none 0 0,.slice none 0 0] 36)) #[.slice none 0 0,.slice none 0 0] 36) hb;simp only[World.size_alloc] at hB hR hO hst
 have hz1:=hb.size;simp only[World.size_alloc] at hz1
 have hb1:Below w.heap.size w w1:=hbA.trans (hb.mono (by simp;omega));have b1:=ae hB;have o1:=ae hO;have o2:=aq hO;go_wp2_with fail
 have hb1':Below w.heap.size w (w1.setCell ⟨w.heap.size+1+1,0,none⟩ (.slice (some ⟨w.heap.size+1+1+1,0,none⟩) ts.length ts.length)):=hb1.setCell (by simp;omega) _;refine (toFuncS_any a2 fs cap2 _ hs.funcs hs.code (hm2.mono hb1')).mono ?_;rintro e w2 ⟨rfl,hfn,hb2⟩;have hR2:=ah (w':=w2) (show (w1.setCell ⟨w.heap.size+1+1,0,none⟩ (.slice (some ⟨w.heap.size+1+1+1,0,none⟩) ts.length ts.length)).heap[w.heap.size+1]?=_ by rw[Below.heap_setCell _ _ _ _ (by simp)];exact hR) hb2
 have hO2:=ah (w':=w2) (ak (i:=0) hO (.slice (some ⟨w.heap.size+1+1+1,0,none⟩) ts.length ts.length)) hb2;have hst2:bc w2 (w.heap.size+1+1+1) (some ⟨w.heap.size+1+1+1,0,none⟩) ts:=(hst.above ((aZ.refl _ _).setCell (p:=⟨w.heap.size+1+1,0,none⟩) (by simp) (.slice (some ⟨w.heap.size+1+1+1,0,none⟩) ts.length ts.length))).mono hb2;simp only[World.size_setCell] at hfn hb2 ⊢
 have hb3:Below w.heap.size w w2:=hb1'.trans (hb2.mono (by omega));simp at hO2
 have r1:=ae hR2;have r2:=aq hR2;have p1:=ae hO2;have p2:=aq hO2;clear hB hR hO b1 o1 o2 hR2 hO2 hst hb hb2 hbA hb1';go_wp2;refine bodyPost_ret (v:=.agg #[(.slice (some ⟨w.heap.size+1+1+1,0,none⟩) ts.length ts.length),.slice (some ⟨w1.heap.size,0,none⟩) fs.length fs.length]) (by simp[results,Tryz.results10,go_sem,r1]) rfl ⟨w.heap.size+1+1+1,w1.heap.size,by omega,by omega,rfl,?_,?_,?_⟩
 ·exact (hst2.above ((((aZ.refl _ _).setCell (by simp) _).setCell (by simp) _).setCell (by simp) _)).low (by omega)
 ·exact (hfn.above ((((aZ.refl _ _).setCell (by simp;omega) _).setCell (by simp;omega) _).setCell (by simp;omega) _)).low (by omega)
 ·exact ((hb3.setCell (by simp;omega) _).setCell (by simp) _).setCell (by simp) _
end Go.Proofs.YtbjmgmmekmfjhaaGreatDoor
