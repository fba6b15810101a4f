/- TV29 -/
import Derived.Test.YtdlkbbgmjilccaaGreatDoorTV23
import Derived.Test.YtdlkbbgmjilccaaGreatDoorTV26
set_option maxHeartbeats 32000000
set_option maxRecDepth 100000
namespace Go.Proofs.YtdlkbbgmjilccaaGreatDoor
open Go.RowKit
theorem bd(n lo hi:Int)(w:World) :
  Calls Tryz.prog 30 #[.int .i64 n,.int .i64 lo,.int .i64 hi] w fun e w'=>e=.returned (.bool (pB (Btw n lo hi)))/\w'=w:=by
 by_cases h1:lo<=n
 ·by_cases h2:n<=hi
  ·go_enter Tryz.func30,Tryz.ntmps30
   go_wp2;go_ret
   exact⟨aj (ay ⟨h1,h2⟩).symm,rfl⟩
  ·go_enter Tryz.func30,Tryz.ntmps30
   go_wp2;go_ret
   exact⟨aj (aw (fun h=>by have a:=h.1;have b:=h.2;omega)).symm,rfl⟩
 ·go_enter Tryz.func30,Tryz.ntmps30
  go_wp2;go_ret
  exact⟨aj (aw (fun h=>by have a:=h.1;have b:=h.2;omega)).symm,rfl⟩
theorem hasFunc_any(a:Option Addr)(n cap:Nat)(i:Int)(w:World) :
  Calls Tryz.prog 157 #[.slice a n cap,.int .i64 i] w fun e w'=>e=.returned (.bool (pB (Reg i n)))/\w'=w:=by
 by_cases h1:0<=i
 ·by_cases h2:i<(n:Int)
  ·go_enter Tryz.func157,Tryz.ntmps157
   go_wp2;go_ret
   exact⟨aj (ay ⟨h1,h2⟩).symm,rfl⟩
  ·go_enter Tryz.func157,Tryz.ntmps157
   go_wp2;go_ret
   exact⟨aj (aw (fun h=>by have a:=h.1;have b:=h.2;omega)).symm,rfl⟩
 ·go_enter Tryz.func157,Tryz.ntmps157
  go_wp2;go_ret
  exact⟨aj (aw (fun h=>by have a:=h.1;have b:=h.2;omega)).symm,rfl⟩
theorem dg(a:Option Addr)(n cap:Nat)(i:Int)(w:World) :
  Calls Tryz.prog 212 #[.slice a n cap,.int .i64 i] w fun e w'=>e=.returned (.bool (pB (Reg i n)))/\w'=w:=by
 by_cases h1:0<=i
 ·by_cases h2:i<(n:Int)
  ·go_enter Tryz.func212,Tryz.ntmps212
   go_wp2;go_ret
   exact⟨aj (ay ⟨h1,h2⟩).symm,rfl⟩
  ·go_enter Tryz.func212,Tryz.ntmps212
   go_wp2;go_ret
   exact⟨aj (aw (fun h=>by have a:=h.1;have b:=h.2;omega)).symm,rfl⟩
 ·go_enter Tryz.func212,Tryz.ntmps212
  go_wp2;go_ret
  exact⟨aj (aw (fun h=>by have a:=h.1;have b:=h.2;omega)).symm,rfl⟩
theorem hasExit_any(a:Option Addr)(n cap:Nat)(i:Int)(w:World) :
  Calls Tryz.prog 213 #[.slice a n cap,.int .i64 i] w fun e w'=>e=.returned (.bool (pB (Reg i n)))/\w'=w:=by
 by_cases h1:0<=i
 ·by_cases h2:i<(n:Int)
  ·go_enter Tryz.func213,Tryz.ntmps213
   go_wp2;go_ret
   exact⟨aj (ay ⟨h1,h2⟩).symm,rfl⟩
  ·go_enter Tryz.func213,Tryz.ntmps213
   go_wp2;go_ret
   exact⟨aj (aw (fun h=>by have a:=h.1;have b:=h.2;omega)).symm,rfl⟩
 ·go_enter Tryz.func213,Tryz.ntmps213
  go_wp2;go_ret
  exact⟨aj (aw (fun h=>by have a:=h.1;have b:=h.2;omega)).symm,rfl⟩
theorem hasExRec_any(a:Option Addr)(n cap:Nat)(i:Int)(w:World) :
  Calls Tryz.prog 231 #[.slice a n cap,.int .i64 i] w fun e w'=>e=.returned (.bool (pB (Reg i n)))/\w'=w:=by
 by_cases h1:0<=i
 ·by_cases h2:i<(n:Int)
  ·go_enter Tryz.func231,Tryz.ntmps231
   go_wp2;go_ret
   exact⟨aj (ay ⟨h1,h2⟩).symm,rfl⟩
  ·go_enter Tryz.func231,Tryz.ntmps231
   go_wp2;go_ret
   exact⟨aj (aw (fun h=>by have a:=h.1;have b:=h.2;omega)).symm,rfl⟩
 ·go_enter Tryz.func231,Tryz.ntmps231
  go_wp2;go_ret
  exact⟨aj (aw (fun h=>by have a:=h.1;have b:=h.2;omega)).symm,rfl⟩
theorem endOp_any(op:Int)(w:World) :
  Calls Tryz.prog 161 #[.int .i64 op] w fun e w'=>e=.returned (.bool (pB (eH op)))/\w'=w:=by
 by_cases h1:op=23
 ·subst h1;go_enter Tryz.func161,Tryz.ntmps161
  go_wp2;go_ret
  exact⟨aj (ay (.inl rfl)).symm,rfl⟩
 by_cases h2:op=26
 ·subst h2;go_enter Tryz.func161,Tryz.ntmps161
  go_wp2;go_ret
  exact⟨aj (ay (.inr (.inl rfl))).symm,rfl⟩
 by_cases h3:op=27
 ·subst h3;go_enter Tryz.func161,Tryz.ntmps161
  go_wp2;go_ret
  exact⟨aj (ay (.inr (.inr rfl))).symm,rfl⟩
 ·go_enter Tryz.func161,Tryz.ntmps161
  go_wp2;go_ret
  exact⟨aj (aw (fun h=>h.elim h1 (fun h=>h.elim h2 h3))).symm,rfl⟩
theorem countV_any(oa ea:Option Addr)(oc ec:Nat)(D:aH)(w:World) :
  Calls Tryz.prog 273 #[.agg #[],.agg #[.int .i64 D.fn,.int .i64 D.entry,.int .i64 D.vals,.int .i64 D.nums,.slice oa D.ops.length oc,.slice ea D.exits.length ec]] w fun e w'=>e=.returned (.int .i64 D.vals)/\Below w.heap.size w w':=by
 go_enter Tryz.func273,Tryz.ntmps273
 go_wp2;go_ret
 exact⟨rfl,(gM.alloc nL _).alloc (by simp) _⟩
theorem isInV_any(oa ea:Option Addr)(oc ec:Nat)(D:aH)(n:Int)(w:World) :
  Calls Tryz.prog 210 #[.int .i64 n,.agg #[.int .i64 D.fn,.int .i64 D.entry,.int .i64 D.vals,.int .i64 D.nums,.slice oa D.ops.length oc,.slice ea D.exits.length ec]] w fun e w'=>e=.returned (.bool (pB (Reg n D.vals)))/\Below w.heap.size w w':=by
 have m1 : ∀ (v : Value) (W : World), (Go.method 480 335 v "loop.example/g00094/impl.countIn").run Tryz.prog W = .ok (273, v) W := fun _ _ => by kernel_rfl
 have hbA:Below w.heap.size w ((w.alloc (.cells #[.int .i64 D.fn,.int .i64 D.entry,.int .i64 D.vals,.int .i64 D.nums,.slice oa D.ops.length oc,.slice ea D.exits.length ec] 101)).alloc (.cells #[] 335)):=(gM.alloc nL _).alloc (by simp) _;by_cases h1:0<=n
 ·by_cases h2:n<D.vals
  ·go_enter Tryz.func210,Tryz.ntmps210
   go_wp2_with (go_at_call 273;refine (countV_any _ _ _ _ _ _).mono ?_;rintro e w1 ⟨rfl,hb⟩)
   go_ret
   exact⟨aj (ay ⟨h1,h2⟩).symm,hbA.trans (hb.mono hbA.size)⟩
  ·go_enter Tryz.func210,Tryz.ntmps210
   go_wp2_with (go_at_call 273;refine (countV_any _ _ _ _ _ _).mono ?_;rintro e w1 ⟨rfl,hb⟩)
   go_ret
   exact⟨bx (by simp[Reg];omega),hbA.trans (hb.mono hbA.size)⟩
 ·go_enter Tryz.func210,Tryz.ntmps210
  go_wp2;go_ret
  exact⟨aj (aw (fun h=>by have a:=h.1;have b:=h.2;omega)).symm,hbA⟩
theorem countN_any(oa ea:Option Addr)(oc ec:Nat)(D:aH)(w:World) :
  Calls Tryz.prog 276 #[.agg #[],.agg #[.int .i64 D.fn,.int .i64 D.entry,.int .i64 D.vals,.int .i64 D.nums,.slice oa D.ops.length oc,.slice ea D.exits.length ec]] w fun e w'=>e=.returned (.int .i64 D.nums)/\Below w.heap.size w w':=by
 go_enter Tryz.func276,Tryz.ntmps276
 go_wp2;go_ret
 exact⟨rfl,(gM.alloc nL _).alloc (by simp) _⟩
theorem isInN_any(oa ea:Option Addr)(oc ec:Nat)(D:aH)(n:Int)(w:World) :
  Calls Tryz.prog 211 #[.int .i64 n,.agg #[.int .i64 D.fn,.int .i64 D.entry,.int .i64 D.vals,.int .i64 D.nums,.slice oa D.ops.length oc,.slice ea D.exits.length ec]] w fun e w'=>e=.returned (.bool (pB (Reg n D.nums)))/\Below w.heap.size w w':=by
 have m1 : ∀ (v : Value) (W : World), (Go.method 480 337 v "loop.example/g00094/impl.countIn").run Tryz.prog W = .ok (276, v) W := fun _ _ => by kernel_rfl
 have hbA:Below w.heap.size w ((w.alloc (.cells #[.int .i64 D.fn,.int .i64 D.entry,.int .i64 D.vals,.int .i64 D.nums,.slice oa D.ops.length oc,.slice ea D.exits.length ec] 101)).alloc (.cells #[] 337)):=(gM.alloc nL _).alloc (by simp) _;by_cases h1:0<=n
 ·by_cases h2:n<D.nums
  ·go_enter Tryz.func211,Tryz.ntmps211
   go_wp2_with (go_at_call 276;refine (countN_any _ _ _ _ _ _).mono ?_;rintro e w1 ⟨rfl,hb⟩)
   go_ret
   exact⟨aj (ay ⟨h1,h2⟩).symm,hbA.trans (hb.mono hbA.size)⟩
  ·go_enter Tryz.func211,Tryz.ntmps211
   go_wp2_with (go_at_call 276;refine (countN_any _ _ _ _ _ _).mono ?_;rintro e w1 ⟨rfl,hb⟩)
   go_ret
   exact⟨bx (by simp[Reg];omega),hbA.trans (hb.mono hbA.size)⟩
 ·go_enter Tryz.func211,Tryz.ntmps211
  go_wp2;go_ret
  exact⟨aj (aw (fun h=>by have a:=h.1;have b:=h.2;omega)).symm,hbA⟩
def lookCells (a1 a2 oa ea:Option Addr)(nt c1 c2 oc ec G nf:Nat)(D:aH):Array Value:=
 #[.slice a1 nt c1,.slice a2 nf c2,.slice (some ⟨G,0,none⟩) nf nf,.int .i64 D.fn,.int .i64 D.entry,.int .i64 D.vals,.int .i64 D.nums,.slice oa D.ops.length oc,.slice ea D.exits.length ec,.slice a2 nf c2,.slice oa D.ops.length oc,.slice ea D.exits.length ec]
structure Look (fs:List Fn)(D:aH)(a1 a2 oa ea:Option Addr)(nt c1 c2 oc ec G base K:Nat)(w:World):Prop where
 blk:w.heap[K]?=some (Obj.cells (lookCells a1 a2 oa ea nt c1 c2 oc ec G fs.length D) 201 (0,0))
 fns:FnsAt w 0 a2 fs
 hts:Hs w base G fs.length fs
 ops:bS w 0 oa D.ops
 exits:bV w 0 ea D.exits
 shp:ShAt w
structure Lim (fs:List Fn)(D:aH):Prop where
 nf:fs.length<=1048576
 code:∀f∈fs,f.code.length<=1048576
 fast:bI D
 fine:∀k (hk:k<fs.length),Fine fs fs[k].code
section
variable {fs:List Fn} {D:aH} {a1 a2 oa ea:Option Addr} {nt c1 c2 oc ec G base K:Nat} {w:World}
theorem Look.mono{w':World}(h:Look fs D a1 a2 oa ea nt c1 c2 oc ec G base K w)(hb:Below w.heap.size w w'):Look fs D a1 a2 oa ea nt c1 c2 oc ec G base K w':=
 ⟨ab h.blk hb,h.fns.mono hb,h.hts.mono hb,h.ops.mono hb,h.exits.mono hb,h.shp.mono hb⟩
theorem Look.cells(h:Look fs D a1 a2 oa ea nt c1 c2 oc ec G base K w)(i:Nat):w.cell? ⟨K,i,none⟩=(#[.slice a1 nt c1,.slice a2 fs.length c2,.slice (some ⟨G,0,none⟩) fs.length fs.length,.int .i64 D.fn,.int .i64 D.entry,.int .i64 D.vals,.int .i64 D.nums,.slice oa D.ops.length oc,.slice ea D.exits.length ec,.slice a2 fs.length c2,.slice oa D.ops.length oc,.slice ea D.exits.length ec]:Array Value)[i]?:=aa h.blk i
theorem part0_any(at' n:Int)(h:Look fs D a1 a2 oa ea nt c1 c2 oc ec G base K w) :
  Calls Tryz.prog 188 #[.pointer (some ⟨K,0,none⟩),.int .i64 at',.int .i64 0,.int .i64 n] w fun e w'=>e=.returned (.bool (pB (aA fs.length D at' 0 n)))/\Below w.heap.size w w':=by
 have c:=h.cells;by_cases hn:n=0
 ·subst hn;go_enter Tryz.func188,Tryz.ntmps188
  go_wp2;go_ret
  exact⟨aj (ay (show (0:Int)=0 from rfl)).symm,Below.refl _ _⟩
 ·have hn':(n == 0)=false:=by simpa using hn
  have HN:Hid (¬n=0):=hn;clear hn;go_enter Tryz.func188,Tryz.ntmps188
  go_wp2;go_ret
  exact⟨aj (aw (show ¬n=0 from HN.out)).symm,Below.refl _ _⟩
theorem part1_any(at' n:Int)(h:Look fs D a1 a2 oa ea nt c1 c2 oc ec G base K w) :
  Calls Tryz.prog 188 #[.pointer (some ⟨K,0,none⟩),.int .i64 at',.int .i64 1,.int .i64 n] w fun e w'=>e=.returned (.bool (pB (aA fs.length D at' 1 n)))/\Below w.heap.size w w':=by
 have c:=h.cells;go_enter Tryz.func188,Tryz.ntmps188
 go_wp2_with (go_at_call 210;refine (isInV_any _ _ _ _ D _ _).mono ?_;rintro e w1 ⟨rfl,hb⟩)
 go_ret
 exact⟨rfl,hb⟩
theorem part2_any(at' n:Int)(h:Look fs D a1 a2 oa ea nt c1 c2 oc ec G base K w) :
  Calls Tryz.prog 188 #[.pointer (some ⟨K,0,none⟩),.int .i64 at',.int .i64 2,.int .i64 n] w fun e w'=>e=.returned (.bool (pB (aA fs.length D at' 2 n)))/\Below w.heap.size w w':=by
 have c:=h.cells;go_enter Tryz.func188,Tryz.ntmps188
 go_wp2_with (go_at_call 211;refine (isInN_any _ _ _ _ D _ _).mono ?_;rintro e w1 ⟨rfl,hb⟩)
 go_ret
 exact⟨rfl,hb⟩
theorem part3_any(at' n:Int)(h:Look fs D a1 a2 oa ea nt c1 c2 oc ec G base K w) :
  Calls Tryz.prog 188 #[.pointer (some ⟨K,0,none⟩),.int .i64 at',.int .i64 3,.int .i64 n] w fun e w'=>e=.returned (.bool (pB (aA fs.length D at' 3 n)))/\Below w.heap.size w w':=by
 have c:=h.cells;go_enter Tryz.func188,Tryz.ntmps188
 go_wp2_with (go_at_call 30;refine (bd _ _ _ _).mono ?_;rintro e w1 ⟨rfl,hw⟩;rw[hw];clear hw w1)
 go_ret
 exact⟨rfl,Below.refl _ _⟩
theorem part4_any(at' n:Int)(h:Look fs D a1 a2 oa ea nt c1 c2 oc ec G base K w) :
  Calls Tryz.prog 188 #[.pointer (some ⟨K,0,none⟩),.int .i64 at',.int .i64 4,.int .i64 n] w fun e w'=>e=.returned (.bool (pB (aA fs.length D at' 4 n)))/\Below w.heap.size w w':=by
 have c:=h.cells;go_enter Tryz.func188,Tryz.ntmps188
 go_wp2_with (go_at_call 30;refine (bd _ _ _ _).mono ?_;rintro e w1 ⟨rfl,hw⟩;rw[hw];clear hw w1)
 go_ret
 exact⟨rfl,Below.refl _ _⟩
theorem part5_any(at' n:Int)(h:Look fs D a1 a2 oa ea nt c1 c2 oc ec G base K w) :
  Calls Tryz.prog 188 #[.pointer (some ⟨K,0,none⟩),.int .i64 at',.int .i64 5,.int .i64 n] w fun e w'=>e=.returned (.bool (pB (aA fs.length D at' 5 n)))/\Below w.heap.size w w':=by
 have c:=h.cells;go_enter Tryz.func188,Tryz.ntmps188
 go_wp2_with (go_at_call 157;refine (hasFunc_any _ _ _ _ _).mono ?_;rintro e w1 ⟨rfl,hw⟩;rw[hw];clear hw w1)
 go_ret
 exact⟨rfl,Below.refl _ _⟩
theorem part7_any(at' n:Int)(h:Look fs D a1 a2 oa ea nt c1 c2 oc ec G base K w) :
  Calls Tryz.prog 188 #[.pointer (some ⟨K,0,none⟩),.int .i64 at',.int .i64 7,.int .i64 n] w fun e w'=>e=.returned (.bool (pB (aA fs.length D at' 7 n)))/\Below w.heap.size w w':=by
 have c:=h.cells;go_enter Tryz.func188,Tryz.ntmps188
 go_wp2_with (go_at_call 30;refine (bd _ _ _ _).mono ?_;rintro e w1 ⟨rfl,hw⟩;rw[hw];clear hw w1)
 go_ret
 exact⟨rfl,Below.refl _ _⟩
theorem part8_any(at' n:Int)(h:Look fs D a1 a2 oa ea nt c1 c2 oc ec G base K w) :
  Calls Tryz.prog 188 #[.pointer (some ⟨K,0,none⟩),.int .i64 at',.int .i64 8,.int .i64 n] w fun e w'=>e=.returned (.bool (pB (aA fs.length D at' 8 n)))/\Below w.heap.size w w':=by
 have c:=h.cells;go_enter Tryz.func188,Tryz.ntmps188
 go_wp2_with (go_at_call 213;refine (hasExit_any _ _ _ _ _).mono ?_;rintro e w1 ⟨rfl,hw⟩;rw[hw];clear hw w1)
 go_ret
 exact⟨rfl,Below.refl _ _⟩
theorem part6_any(at' n:Int)(h:Look fs D a1 a2 oa ea nt c1 c2 oc ec G base K w) :
  Calls Tryz.prog 188 #[.pointer (some ⟨K,0,none⟩),.int .i64 at',.int .i64 6,.int .i64 n] w fun e w'=>e=.returned (.bool (pB (aA fs.length D at' 6 n)))/\Below w.heap.size w w':=by
 have c:=h.cells;by_cases hr:Reg n D.ops.length
 case neg=>
  have HB:pB (Reg n D.ops.length)=false:=aw hr;have HR:Hid (¬Reg n D.ops.length):=hr;clear hr;go_enter Tryz.func188,Tryz.ntmps188
  go_wp2_with (go_at_call 212;refine (dg _ _ _ _ _).mono ?_;rintro e w1 ⟨rfl,hw⟩;rw[hw,HB];clear hw w1)
  go_ret
  exact⟨aj (aw (fun q=>HR.out ⟨q.1,by obtain⟨q1,q2,-⟩:=q;omega⟩)).symm,Below.refl _ _⟩
 have HB:pB (Reg n D.ops.length)=true:=ay hr;obtain⟨i,rfl⟩:∃i:Nat,n=i:=⟨n.toNat,by have:=hr.1;omega⟩;have hi:i<D.ops.length:=by have:=hr.2;omega
 clear hr;obtain⟨b,off,rfl,-,d0,-⟩:=h.ops i hi;by_cases ha:at'<(i:Int)
 case pos=>
  go_enter Tryz.func188,Tryz.ntmps188
  go_wp2_with (go_at_call 212;refine (dg _ _ _ _ _).mono ?_;rintro e w1 ⟨rfl,hw⟩;rw[hw,HB];clear hw w1)
  go_ret
  exact⟨aj (ay ⟨by omega,by simpa using hi,.inl ha⟩).symm,Below.refl _ _⟩
 by_cases ho:D.ops[i].op=25
 case pos=>
  rw[ho] at d0;have HO:Hid (D.ops[i].op=25):=ho;clear ho;go_enter Tryz.func188,Tryz.ntmps188
  go_wp2_with (go_at_call 212;refine (dg _ _ _ _ _).mono ?_;rintro e w1 ⟨rfl,hw⟩;rw[hw,HB];clear hw w1)
  go_ret
  exact⟨aj (ay ⟨by omega,by simpa using hi,.inr (by simpa using HO.out)⟩).symm,Below.refl _ _⟩
 case neg=>
  have ho':(D.ops[i].op == 25)=false:=by simpa using ho
  have HO:Hid (¬D.ops[i].op=25):=ho;clear ho;go_enter Tryz.func188,Tryz.ntmps188
  go_wp2_with (go_at_call 212;refine (dg _ _ _ _ _).mono ?_;rintro e w1 ⟨rfl,hw⟩;rw[hw,HB];clear hw w1)
  go_ret
  refine⟨bx ⟨fun q=>absurd (of_decide_eq_true q) (by omega),fun q=>?_⟩,Below.refl _ _⟩;obtain⟨_,_,q | q⟩:=q
  ·exact decide_eq_true q
  ·exact absurd (by simpa using q) HO.out
theorem dh(at' n:Int)(p:Nat)(hp:p<=8)(h:Look fs D a1 a2 oa ea nt c1 c2 oc ec G base K w) :
  Calls Tryz.prog 188 #[.pointer (some ⟨K,0,none⟩),.int .i64 at',.int .i64 (p:Nat),.int .i64 n] w fun e w'=>e=.returned (.bool (pB (aA fs.length D at' p n)))/\Below w.heap.size w w':=by
 match p,hp with
 | 0,_=>exact part0_any at' n h
 | 1,_=>exact part1_any at' n h
 | 2,_=>exact part2_any at' n h
 | 3,_=>exact part3_any at' n h
 | 4,_=>exact part4_any at' n h
 | 5,_=>exact part5_any at' n h
 | 6,_=>exact part6_any at' n h
 | 7,_=>exact part7_any at' n h
 | 8,_=>exact part8_any at' n h
theorem const1_any(v:Vl)(hs:v.s.size<=1048576)(h:Look fs D a1 a2 oa ea nt c1 c2 oc ec G base K w) :
  Calls Tryz.prog 189 #[.pointer (some ⟨K,0,none⟩),.int .i64 1,.agg #[.int .i64 v.k,.int .i64 v.n,.string v.s]] w fun e w'=>e=.returned (.bool (pB (a6 fs.length 1 v)))/\Below w.heap.size w w':=by
 obtain⟨wA,hwA⟩:∃wA,wA=w.alloc (.cells #[.int .i64 v.k,.int .i64 v.n,.string v.s] 46):=⟨_,rfl⟩;have hbA:Below w.heap.size w wA:=by rw[hwA];exact gM.alloc nL _
 have hV:wA.heap[w.heap.size]?=some (.cells #[.int .i64 v.k,.int .i64 v.n,.string v.s] 46 (0,0)):=by rw[hwA];exact ah _ _ _
 have hk:=h.mono hbA;have v0:=aa hV;have c:=hk.cells;go_enter Tryz.func189,Tryz.ntmps189
 go_upto_region 3 with fail
 rw[<-hwA];clear hwA;have HS:Hid (∀w',Below wA.heap.size wA w'->w'.cell? ⟨K,0,none⟩=some (.slice a1 nt c1)/\w'.cell? ⟨K,1,none⟩=some (.slice a2 fs.length c2)/\w'.cell? ⟨w.heap.size,0,none⟩=some (.int .i64 v.k)/\w'.cell? ⟨w.heap.size,1,none⟩=some (.int .i64 v.n)/\w'.cell? ⟨w.heap.size,2,none⟩=some (.string v.s)):=fun w' q=>⟨(hk.mono q).cells 0,(hk.mono q).cells 1,aa (ab hV q) 0,aa (ab hV q) 1,aa (ab hV q) 2⟩
 have HB:Hid (Below w.heap.size w wA):=hbA;clear hbA hk v0 c h hV;refine au (by kernel_rfl) (by kernel_rfl) ?_
 iterate 5
  refine ae (v:=?_) (by kernel_rfl) ?_ ?_;rotate_left
  ·intro w' hC;obtain⟨j0,j1,j2,j3,j4⟩:=HS.out w' hC;go_simp;try with_reducible rfl
  try simp only[Act.put,sAr,sZe,sSu]
 refine ae (v:=.bool (valB v.k v.n v.s fs.length 0)) (by kernel_rfl) ?_ ?_
 ·intro w' hC;go_simp;refine (er v.k v.n v.s 0 _ _ _ _ fs.length _ _ hs).mono ?_;rintro e w'' ⟨rfl,hb2⟩;exact⟨rfl,hC.trans (hb2.mono hC.size)⟩
 try simp only[Act.put,sAr,sZe,sSu]
 refine ae (v:=?_) (by kernel_rfl) ?_ ?_;rotate_left
 ·intro w' hC;obtain⟨j0,j1,j2,j3,j4⟩:=HS.out w' hC;go_simp;try with_reducible rfl
 try simp only[Act.put,sAr,sZe,sSu]
 refine wpQuiet_nil ?_;intro w2 q2;go_wp2;go_ret
 exact⟨bx Iff.rfl,HB.out.trans (q2.mono HB.out.size)⟩
theorem const2_any(v:Vl)(hs:v.s.size<=1048576)(h:Look fs D a1 a2 oa ea nt c1 c2 oc ec G base K w) :
  Calls Tryz.prog 189 #[.pointer (some ⟨K,0,none⟩),.int .i64 2,.agg #[.int .i64 v.k,.int .i64 v.n,.string v.s]] w fun e w'=>e=.returned (.bool (pB (a6 fs.length 2 v)))/\Below w.heap.size w w':=by
 obtain⟨wA,hwA⟩:∃wA,wA=w.alloc (.cells #[.int .i64 v.k,.int .i64 v.n,.string v.s] 46):=⟨_,rfl⟩;have hbA:Below w.heap.size w wA:=by rw[hwA];exact gM.alloc nL _
 have hV:wA.heap[w.heap.size]?=some (.cells #[.int .i64 v.k,.int .i64 v.n,.string v.s] 46 (0,0)):=by rw[hwA];exact ah _ _ _
 have hk:=h.mono hbA;have v0:=aa hV;have c:=hk.cells;by_cases hk1:v.k=1
 case neg=>
  have hk2:(v.k == 1)=false:=by simpa using hk1
  have HK:Hid (¬v.k=1):=hk1;clear hk1;go_enter Tryz.func189,Tryz.ntmps189
  go_upto_region 5 with fail
  rw[<-hwA];clear hwA;have HS:Hid (∀w',Below wA.heap.size wA w'->w'.cell? ⟨K,0,none⟩=some (.slice a1 nt c1)/\w'.cell? ⟨K,1,none⟩=some (.slice a2 fs.length c2)/\w'.cell? ⟨w.heap.size,0,none⟩=some (.int .i64 v.k)/\w'.cell? ⟨w.heap.size,1,none⟩=some (.int .i64 v.n)/\w'.cell? ⟨w.heap.size,2,none⟩=some (.string v.s)):=fun w' q=>⟨(hk.mono q).cells 0,(hk.mono q).cells 1,aa (ab hV q) 0,aa (ab hV q) 1,aa (ab hV q) 2⟩
  have HB:Hid (Below w.heap.size w wA):=hbA;clear hbA hk v0 c h hV;refine au (by kernel_rfl) (by kernel_rfl) ?_
  iterate 4
   refine ae (v:=?_) (by kernel_rfl) ?_ ?_;rotate_left
   ·intro w' hC;obtain⟨j0,j1,j2,j3,j4⟩:=HS.out w' hC;go_simp;try with_reducible rfl
   try simp only[Act.put,sAr,sZe,sSu]
  iterate 6 go_big_quiet_skip
  iterate 2
   refine ae (v:=?_) (by kernel_rfl) ?_ ?_;rotate_left
   ·intro w' hC;obtain⟨j0,j1,j2,j3,j4⟩:=HS.out w' hC;go_simp;try with_reducible rfl
   try simp only[Act.put,sAr,sZe,sSu]
  refine wpQuiet_nil ?_;intro w2 q2;go_wp2;go_ret
  exact⟨aj (aw (fun q=>HK.out q.1)).symm,HB.out.trans (q2.mono HB.out.size)⟩
 have hk2:(v.k == 1)=true:=by simpa using hk1
 have HK:Hid (v.k=1):=hk1;clear hk1;go_enter Tryz.func189,Tryz.ntmps189
 go_upto_region 5 with fail
 rw[<-hwA];clear hwA;have HS:Hid (∀w',Below wA.heap.size wA w'->w'.cell? ⟨K,0,none⟩=some (.slice a1 nt c1)/\w'.cell? ⟨K,1,none⟩=some (.slice a2 fs.length c2)/\w'.cell? ⟨w.heap.size,0,none⟩=some (.int .i64 v.k)/\w'.cell? ⟨w.heap.size,1,none⟩=some (.int .i64 v.n)/\w'.cell? ⟨w.heap.size,2,none⟩=some (.string v.s)):=fun w' q=>⟨(hk.mono q).cells 0,(hk.mono q).cells 1,aa (ab hV q) 0,aa (ab hV q) 1,aa (ab hV q) 2⟩
 have HB:Hid (Below w.heap.size w wA):=hbA;clear hbA hk v0 c h hV;refine au (by kernel_rfl) (by kernel_rfl) ?_
 iterate 9
  refine ae (v:=?_) (by kernel_rfl) ?_ ?_;rotate_left
  ·intro w' hC;obtain⟨j0,j1,j2,j3,j4⟩:=HS.out w' hC;go_simp;try with_reducible rfl
  try simp only[Act.put,sAr,sZe,sSu]
 refine ae (v:=.bool (valB v.k v.n v.s fs.length 0)) (by kernel_rfl) ?_ ?_
 ·intro w' hC;go_simp;refine (er v.k v.n v.s 0 _ _ _ _ fs.length _ _ hs).mono ?_;rintro e w'' ⟨rfl,hb2⟩;exact⟨rfl,hC.trans (hb2.mono hC.size)⟩
 try simp only[Act.put,sAr,sZe,sSu]
 iterate 2
  refine ae (v:=?_) (by kernel_rfl) ?_ ?_;rotate_left
  ·intro w' hC;obtain⟨j0,j1,j2,j3,j4⟩:=HS.out w' hC;go_simp;try with_reducible rfl
  try simp only[Act.put,sAr,sZe,sSu]
 refine wpQuiet_nil ?_;intro w2 q2;go_wp2;go_ret
 exact⟨bx ⟨fun q=>⟨HK.out,q⟩,fun q=>q.2⟩,HB.out.trans (q2.mono HB.out.size)⟩
theorem constO_any(v:Vl)(h:Look fs D a1 a2 oa ea nt c1 c2 oc ec G base K w)(p:Nat)(hp1:p≠1)(hp2:p≠2) :
  Calls Tryz.prog 189 #[.pointer (some ⟨K,0,none⟩),.int .i64 (p:Nat),.agg #[.int .i64 v.k,.int .i64 v.n,.string v.s]] w fun e w'=>e=.returned (.bool (pB (a6 fs.length p v)))/\Below w.heap.size w w':=by
 obtain⟨wA,hwA⟩:∃wA,wA=w.alloc (.cells #[.int .i64 v.k,.int .i64 v.n,.string v.s] 46):=⟨_,rfl⟩;have hbA:Below w.heap.size w wA:=by rw[hwA];exact gM.alloc nL _
 have hV:wA.heap[w.heap.size]?=some (.cells #[.int .i64 v.k,.int .i64 v.n,.string v.s] 46 (0,0)):=by rw[hwA];exact ah _ _ _
 have hk:=h.mono hbA;have v0:=aa hV;have c:=hk.cells;have g36:=guard36;have e36:=fP v zeroV;have HP:Hid (a6 fs.length p v↔v=zeroV):=by
  match p,hp1,hp2 with
  | 0,_,_=>exact Iff.rfl
  | p+3,_,_=>exact Iff.rfl
 have q1:((p:Int) == 1)=false:=by simp;omega
 have q2:((p:Int) == 2)=false:=by simp;omega
 have q1':¬(p:Int)=1:=by omega
 have q2':¬(p:Int)=2:=by omega
 unfold zeroV at e36;dsimp only at e36
 have HB:Hid (Below w.heap.size w wA):=hbA;clear hbA h hp1 hp2;go_enter Tryz.func189,Tryz.ntmps189
 go_upto_region 6 with fail
 rw[<-hwA];clear hwA;go_wp2;go_ret
 refine⟨bx ?_,HB.out⟩;rw[HP.out];simp[pB,zeroV]
theorem constantOk_any(v:Vl)(p:Nat)(hs:v.s.size<=1048576)(h:Look fs D a1 a2 oa ea nt c1 c2 oc ec G base K w) :
  Calls Tryz.prog 189 #[.pointer (some ⟨K,0,none⟩),.int .i64 (p:Nat),.agg #[.int .i64 v.k,.int .i64 v.n,.string v.s]] w fun e w'=>e=.returned (.bool (pB (a6 fs.length p v)))/\Below w.heap.size w w':=by
 match p with
 | 0=>exact constO_any v h 0 (by decide) (by decide)
 | 1=>exact const1_any v hs h
 | 2=>exact const2_any v hs h
 | p+3=>exact constO_any v h (p+3) (by omega) (by omega)
end
def eZ (a1 a2 oa ea:Option Addr)(nt c1 c2 oc ec nf:Nat)(D:aH)(b:Bool):Array Value:=
 #[.slice a1 nt c1,.slice a2 nf c2,.int .i64 D.fn,.int .i64 D.entry,.int .i64 D.vals,.int .i64 D.nums,.slice oa D.ops.length oc,.slice ea D.exits.length ec,.bool b]
structure Chk (a1 a2 oa ea:Option Addr)(nt c1 c2 oc ec nf K:Nat)(D:aH)(wK:World)(b:Bool)(w:World):Prop where
 blk:w.heap[K]?=some (Obj.cells (eZ a1 a2 oa ea nt c1 c2 oc ec nf D b) 167 (0,0))
 bel:Below K wK w
def Rk (K:Nat)(w w':World):Prop:=w.heap.size<=w'.heap.size/\∀g,g<w.heap.size->g≠K->w'.heap[g]?=w.heap[g]?
theorem Rk.refl(K:Nat)(w:World):Rk K w w:=⟨Nat.le_refl _,fun _ _ _=>rfl⟩
theorem Rk.trans{K:Nat}{w w' w'':World}(h:Rk K w w')(h':Rk K w' w''):Rk K w w'':=⟨Nat.le_trans h.1 h'.1,fun g h1 h2=>(h'.2 g (Nat.lt_of_lt_of_le h1 h.1) h2).trans (h.2 g h1 h2)⟩
theorem Rk.of{K:Nat}{w w':World}(h:Below w.heap.size w w'):Rk K w w':=⟨h.size,fun g h1 _=>h.block g h1⟩
theorem Rk.set{K i:Nat}{w w':World}(h:Rk K w w')(v:Value):Rk K w (w'.setCell ⟨K,i,none⟩ v):=⟨by rw[show (w'.setCell ⟨K,i,none⟩ v).heap.size=w'.heap.size by simp];exact h.1,fun g h1 h2=>by rw[Below.heap_setCell _ _ _ _ (by simpa using h2)];exact h.2 g h1 h2⟩
theorem ak{K g:Nat}{w w':World}{o:Obj}(h:w.heap[g]?=some o)(hne:g≠K)(r:Rk K w w'):w'.heap[g]?=some o:=by
 rw[r.2 g (aq h) hne];exact h
theorem or_pB(b:Bool)(P Q:Prop):((b || !pB P) || !pB Q)=(b || !pB (P/\Q)):=by
 rw[eB];cases b<;>cases pB P<;>cases pB Q<;>rfl
theorem dY{P Q:Prop}(h:P↔Q):pB P=pB Q:=by rw[show P=Q from propext h]
section
variable {a1 a2 oa ea:Option Addr} {nt c1 c2 oc ec nf K:Nat} {D:aH} {wK w:World} {b:Bool}
theorem Chk.cells(h:Chk a1 a2 oa ea nt c1 c2 oc ec nf K D wK b w)(i:Nat):w.cell? ⟨K,i,none⟩=(#[.slice a1 nt c1,.slice a2 nf c2,.int .i64 D.fn,.int .i64 D.entry,.int .i64 D.vals,.int .i64 D.nums,.slice oa D.ops.length oc,.slice ea D.exits.length ec,.bool b]:Array Value)[i]?:=aa h.blk i
theorem Chk.free(h:Chk a1 a2 oa ea nt c1 c2 oc ec nf K D wK b w)(i:Nat):w.frozen? ⟨K,i,none⟩=false:=am h.blk i
theorem Chk.mono{w':World}(h:Chk a1 a2 oa ea nt c1 c2 oc ec nf K D wK b w)(hb:Below w.heap.size w w'):Chk a1 a2 oa ea nt c1 c2 oc ec nf K D wK b w':=⟨ab h.blk hb,h.bel.trans (hb.mono (Nat.le_of_lt (aq h.blk)))⟩
theorem Chk.set(h:Chk a1 a2 oa ea nt c1 c2 oc ec nf K D wK b w)(b':Bool):Chk a1 a2 oa ea nt c1 c2 oc ec nf K D wK b' (w.setCell ⟨K,8,none⟩ (.bool b')):=
 ⟨by simpa[eZ] using ao (i:=8) h.blk (.bool b'),h.bel.setCell nL _⟩
theorem Chk.both{P Q:Prop}(h:Chk a1 a2 oa ea nt c1 c2 oc ec nf K D wK ((b || !pB P) || !pB Q) w):Chk a1 a2 oa ea nt c1 c2 oc ec nf K D wK (b || !pB (P/\Q)) w:=by rw[<-or_pB];exact h
theorem Chk.iff{P Q:Prop}(h:Chk a1 a2 oa ea nt c1 c2 oc ec nf K D wK (b || !pB P) w)(hq:P↔Q):Chk a1 a2 oa ea nt c1 c2 oc ec nf K D wK (b || !pB Q) w:=by rw[<-dY hq];exact h
theorem Chk.no{P:Prop}(h:Chk a1 a2 oa ea nt c1 c2 oc ec nf K D wK true w)(hq:¬P):Chk a1 a2 oa ea nt c1 c2 oc ec nf K D wK (b || !pB P) w:=by rw[aw hq];cases b<;>exact h
theorem bN(c:Bool)(h:Chk a1 a2 oa ea nt c1 c2 oc ec nf K D wK b w) :
  Calls Tryz.prog 136 #[.pointer (some ⟨K,0,none⟩),.bool c] w fun e w'=>e=.returned (.tuple #[])/\Chk a1 a2 oa ea nt c1 c2 oc ec nf K D wK (b || !c) w'/\Rk K w w':=by
 have k1:=h.cells;have k2:=h.free;have HC:Hid (∀b',Chk a1 a2 oa ea nt c1 c2 oc ec nf K D wK b' (w.setCell ⟨K,8,none⟩ (.bool b'))):=h.set;clear h
 cases b
 ·go_enter Tryz.func136,Tryz.ntmps136
  go_wp2;go_end0
  refine⟨rfl,HC.out _,(Rk.refl _ _).set _⟩
 ·go_enter Tryz.func136,Tryz.ntmps136
  go_wp2;go_end0
  refine⟨rfl,HC.out _,(Rk.refl _ _).set _⟩
theorem bc(P:Prop)(h:Chk a1 a2 oa ea nt c1 c2 oc ec nf K D wK b w) :
  Calls Tryz.prog 136 #[.pointer (some ⟨K,0,none⟩),.bool (pB P)] w fun e w'=>e=.returned (.tuple #[])/\Chk a1 a2 oa ea nt c1 c2 oc ec nf K D wK (b || !pB P) w'/\Rk K w w':=bN (pB P) h
theorem a8(n lo hi:Int)(w:World):Calls Tryz.prog 45 #[.int .i64 n,.int .i64 lo,.int .i64 hi] w fun e w'=>e=.returned (.bool (pB (Btw n lo hi)))/\w'=w:=
 (aB n lo hi w).mono fun _ _ q=>⟨q.1.trans (bx (by simp[Btw])),q.2⟩
theorem aX(W:World)(n lo hi:Int)(h:Btw n lo hi):Hid (∀w',Below W.heap.size W w'->Calls Tryz.prog 45 #[.int .i64 n,.int .i64 lo,.int .i64 hi] w' fun e w''=>e=.returned (.bool true)/\Below w'.heap.size w' w''):=fun w' _=>(a8 _ _ _ _).mono fun _ _ q=>⟨by rw[q.1,ay h],by rw[q.2];exact Below.refl _ _⟩
theorem dr(n:Int)(c:Nat):pB (Btw n 0 ((c:Int)-1))=pB (Reg n c):=dY ⟨fun q=>⟨q.1,by have:=q.2;omega⟩,fun q=>⟨q.1,by have:=q.2;omega⟩⟩
theorem aN(r:Int)(hv:-1<=D.vals/\D.vals<=400)(h:Chk a1 a2 oa ea nt c1 c2 oc ec nf K D wK b w) :
  Calls Tryz.prog 135 #[.pointer (some ⟨K,0,none⟩),.int .i64 r] w fun e w'=>e=.returned (.tuple #[])/\Chk a1 a2 oa ea nt c1 c2 oc ec nf K D wK (b || !pB (Reg r D.vals)) w'/\Rk K w w':=by
 have k1:=h.cells;have hw1:IntKind.i64.wrap (D.vals-1)=D.vals-1:=by rw[IntKind.wrap_i64];omega
 go_enter Tryz.func135,Tryz.ntmps135
 go_wp2_with fail
 refine (a8 _ _ _ _).mono ?_;rintro e w1 ⟨rfl,hw⟩;rw[hw];clear hw;go_wp2_with fail
 refine (bc _ h).mono ?_;rintro e w2 ⟨rfl,hc,hr⟩;clear k1;go_wp2;go_end0
 refine⟨rfl,?_,?_⟩
 ·exact hc.iff ⟨fun q=>⟨q.1,by have:=q.2;omega⟩,fun q=>⟨q.1,by have:=q.2;omega⟩⟩
 ·exact hr
theorem bm(r:Int)(hv:0<=D.nums/\D.nums<=400)(h:Chk a1 a2 oa ea nt c1 c2 oc ec nf K D wK b w) :
  Calls Tryz.prog 137 #[.pointer (some ⟨K,0,none⟩),.int .i64 r] w fun e w'=>e=.returned (.tuple #[])/\Chk a1 a2 oa ea nt c1 c2 oc ec nf K D wK (b || !pB (Reg r D.nums)) w'/\Rk K w w':=by
 have k1:=h.cells;have hw1:IntKind.i64.wrap (D.nums-1)=D.nums-1:=by rw[IntKind.wrap_i64];omega
 go_enter Tryz.func137,Tryz.ntmps137
 go_wp2_with fail
 refine (a8 _ _ _ _).mono ?_;rintro e w1 ⟨rfl,hw⟩;rw[hw];clear hw;go_wp2_with fail
 refine (bc _ h).mono ?_;rintro e w2 ⟨rfl,hc,hr⟩;clear k1;go_wp2;go_end0
 refine⟨rfl,?_,?_⟩
 ·exact hc.iff ⟨fun q=>⟨q.1,by have:=q.2;omega⟩,fun q=>⟨q.1,by have:=q.2;omega⟩⟩
 ·exact hr
theorem aZ(r:Int)(hv:D.exits.length<=1048576)(h:Chk a1 a2 oa ea nt c1 c2 oc ec nf K D wK b w) :
  Calls Tryz.prog 132 #[.pointer (some ⟨K,0,none⟩),.int .i64 r] w fun e w'=>e=.returned (.tuple #[])/\Chk a1 a2 oa ea nt c1 c2 oc ec nf K D wK (b || !pB (Reg r D.exits.length)) w'/\Rk K w w':=by
 have k1:=h.cells;have hw1:IntKind.i64.wrap ((D.exits.length:Int)-1)=(D.exits.length:Int)-1:=by rw[IntKind.wrap_i64];omega
 go_enter Tryz.func132,Tryz.ntmps132
 go_wp2_with fail
 refine (a8 _ _ _ _).mono ?_;rintro e w1 ⟨rfl,hw⟩;rw[hw];clear hw;go_wp2_with fail
 refine (bc _ h).mono ?_;rintro e w2 ⟨rfl,hc,hr⟩;clear k1;go_wp2;go_end0
 refine⟨rfl,?_,?_⟩
 ·exact hc.iff ⟨fun q=>⟨q.1,by have:=q.2;omega⟩,fun q=>⟨q.1,by have:=q.2;omega⟩⟩
 ·exact hr
theorem aD(r:Int)(h:Chk a1 a2 oa ea nt c1 c2 oc ec nf K D wK b w) :
  Calls Tryz.prog 133 #[.pointer (some ⟨K,0,none⟩),.int .i64 r] w fun e w'=>e=.returned (.tuple #[])/\Chk a1 a2 oa ea nt c1 c2 oc ec nf K D wK (b || !pB (r=0)) w'/\Rk K w w':=by
 go_enter Tryz.func133,Tryz.ntmps133
 go_wp2_with fail
 rw[fO];refine (bc _ h).mono ?_;rintro e w2 ⟨rfl,hc,hr⟩;go_wp2;go_end0
 refine⟨rfl,?_,?_⟩
 ·exact hc
 ·exact hr
theorem aJ(v:Vl)(h:Chk a1 a2 oa ea nt c1 c2 oc ec nf K D wK b w) :
  Calls Tryz.prog 134 #[.pointer (some ⟨K,0,none⟩),.agg #[.int .i64 v.k,.int .i64 v.n,.string v.s]] w fun e w'=>e=.returned (.tuple #[])/\Chk a1 a2 oa ea nt c1 c2 oc ec nf K D wK (b || !pB (v=zeroV)) w'/\Rk K w w':=by
 have g36:=guard36;have e36:=fP v zeroV;unfold zeroV at e36;dsimp only at e36
 have hA:=h.mono (gM.alloc nL (.cells #[.int .i64 v.k,.int .i64 v.n,.string v.s] 46));go_enter Tryz.func134,Tryz.ntmps134
 go_wp2_with fail
 refine (bc _ hA).mono ?_;rintro e w2 ⟨rfl,hc,hr⟩;clear e36 g36;go_wp2;go_end0
 refine⟨rfl,?_,?_⟩
 ·exact hc
 ·exact (Rk.of (gM.alloc nL _)).trans hr
end
section
variable {a1 a2 oa ea:Option Addr} {nt c1 c2 oc ec nf K:Nat} {D:aH} {wK w:World} {b:Bool}
theorem kGoal_any(at' n:Int)(hn:D.ops.length<=1048576)(ho:bS w 0 oa D.ops)(h:Chk a1 a2 oa ea nt c1 c2 oc ec nf K D wK b w) :
  Calls Tryz.prog 138 #[.pointer (some ⟨K,0,none⟩),.int .i64 at',.int .i64 n] w fun e w'=>e=.returned (.tuple #[])/\Chk a1 a2 oa ea nt c1 c2 oc ec nf K D wK (b || !pB (aA nf D at' 6 n)) w'/\Rk K w w':=by
 have k1:=h.cells;have k2:=h.free;have hw1:IntKind.i64.wrap ((D.ops.length:Int)-1)=(D.ops.length:Int)-1:=by rw[IntKind.wrap_i64];omega
 have HH:Hid (Chk a1 a2 oa ea nt c1 c2 oc ec nf K D wK b w):=h;by_cases hr:Reg n D.ops.length
 case neg=>
  have HB:pB (Btw n 0 ((D.ops.length:Int)-1))=false:=by rw[dr];exact aw hr
  have HN:Hid (¬aA nf D at' 6 n):=fun q=>hr ⟨q.1,by obtain⟨q1,q2,-⟩:=q;omega⟩
  clear hr h;go_enter Tryz.func138,Tryz.ntmps138
  go_wp2_with fail
  refine (a8 _ _ _ _).mono ?_;rintro e w1 ⟨rfl,hw⟩;rw[hw,HB];clear hw w1;go_wp2_with fail
  (try simp only[Exit.inBlock,Exit.then])
  refine bodyPost_ret (results_none rfl _ _ _) rfl ?_;exact⟨rfl,(HH.out.set true).no HN.out,(Rk.refl _ _).set _⟩
 have HB:pB (Btw n 0 ((D.ops.length:Int)-1))=true:=by rw[dr];exact ay hr
 obtain⟨i,rfl⟩:∃i:Nat,n=i:=⟨n.toNat,by have:=hr.1;omega⟩;have hi:i<D.ops.length:=by have:=hr.2;omega
 clear hr h;obtain⟨b',off,rfl,-,d0,-⟩:=ho i hi;have z1:(i:Int)<(D.ops.length:Int):=by omega
 by_cases ha:at'<(i:Int)
 case pos=>
  go_enter Tryz.func138,Tryz.ntmps138
  go_wp2_with fail
  refine (a8 _ _ _ _).mono ?_;rintro e w1 ⟨rfl,hw⟩;rw[hw,HB];clear hw w1;go_wp2_with fail
  refine (bN true HH.out).mono ?_;rintro e w2 ⟨rfl,hc,hr⟩;clear k1 k2 d0;go_wp2;go_end0
  refine⟨rfl,?_,hr⟩;rw[ay (show aA nf D at' 6 (i:Int) from ⟨by omega,by simpa using hi,.inl ha⟩)]
  exact hc
 have HI:Hid (aA nf D at' 6 (i:Int)↔D.ops[i].op=25):=by
  constructor
  ·rintro⟨_,_,q | q⟩
   ·exact absurd q ha
   ·simpa using q
  ·intro q;exact⟨by omega,by simpa using hi,.inr (by simpa using q)⟩
 have ha':¬at'<(i:Int):=ha;by_cases ho2:D.ops[i].op=25
 case pos=>
  have HO:Hid (D.ops[i].op=25):=ho2;rw[ho2] at d0;clear ho2;go_enter Tryz.func138,Tryz.ntmps138
  go_wp2_with fail
  refine (a8 _ _ _ _).mono ?_;rintro e w1 ⟨rfl,hw⟩;rw[hw,HB];clear hw w1;go_wp2_with fail
  refine (bN true HH.out).mono ?_;rintro e w2 ⟨rfl,hc,hr⟩;clear k1 k2 d0;go_wp2;go_end0
  refine⟨rfl,?_,hr⟩;rw[ay (HI.out.2 HO.out)];exact hc
 case neg=>
  have HO:Hid (¬D.ops[i].op=25):=ho2;have ho3:(D.ops[i].op == 25)=false:=by simpa using ho2
  obtain⟨ov,hov⟩:∃ov,ov=D.ops[i].op:=⟨_,rfl⟩;rw[<-hov] at d0 ho3;clear ho2 hov;go_enter Tryz.func138,Tryz.ntmps138
  go_wp2_with fail
  refine (a8 _ _ _ _).mono ?_;rintro e w1 ⟨rfl,hw⟩;rw[hw,HB];clear hw w1;go_wp2_with fail
  rw[show decide (at'<(i:Int))=false by simp;omega]
  refine (bN false HH.out).mono ?_;rintro e w2 ⟨rfl,hc,hr⟩;clear k1 k2 d0;go_wp2;go_end0
  refine⟨rfl,?_,hr⟩;rw[aw (fun q=>HO.out (HI.out.1 q))];exact hc
end
structure SLim (fs:List Fn)(D:aH)(K:Nat)(wK:World)(a2 oa ea:Option Addr):Prop where
 size:K=wK.heap.size
 nf:fs.length<=1048576
 code:∀f∈fs,f.code.length<=1048576
 vals:-1<=D.vals/\D.vals<=400
 nums:0<=D.nums/\D.nums<=400
 nops:D.ops.length<=1048576
 nex:D.exits.length<=1048576
 fns:FnsAt wK 0 a2 fs
 ops:bS wK 0 oa D.ops
 exits:bV wK 0 ea D.exits
 fast:bI D
 fine:∀k (hk:k<fs.length),Fine fs fs[k].code
section
variable {fs:List Fn} {a1 a2 oa ea:Option Addr} {nt c1 c2 oc ec K:Nat} {D:aH} {wK w:World} {b:Bool}
theorem SLim.at{nf:Nat}(l:SLim fs D K wK a2 oa ea)(h:Chk a1 a2 oa ea nt c1 c2 oc ec nf K D wK b w):FnsAt w 0 a2 fs/\bS w 0 oa D.ops/\bV w 0 ea D.exits:=by
 have hb:=h.bel;rw[l.size] at hb;exact⟨l.fns.mono hb,l.ops.mono hb,l.exits.mono hb⟩
theorem bj{at':Int}{x:Fo}(v:Nat)(hop:x.op=v)(h1:1<=v)(h2:v<=29)(his:(insD fs x.f x.p).isSome=true):FopP fs D at' x↔aA fs.length D at' (sh v 0) x.d/\aA fs.length D at' (sh v 1) x.a/\aA fs.length D at' (sh v 2) x.b/\aA fs.length D at' (sh v 3) x.x/\a6 fs.length (sh v 4) x.v:=by
 have e:x.op.toNat=v:=by omega
 unfold FopP;rw[e];exact⟨fun q=>q.2.2,fun q=>⟨⟨by omega,by omega⟩,his,q⟩⟩
theorem bh{f p:Int}(h:(insD fs f p).isSome=true):∃(i j:Nat) (hi:i<fs.length),f=i/\p=j/\j<fs[i].code.length:=by
 unfold insD at h;split at h
 case isFalse=>cases h
 case isTrue q=>
  cases e:fs[f.toNat]? with
  | none=>rw[e] at h;cases h
  | some g=>
   rw[e] at h;obtain⟨hi,he⟩:=List.getElem?_eq_some_iff.1 e;have h':(g.code[p.toNat]?).isSome=true:=h;have hj:p.toNat<g.code.length:=by simpa using h'
   exact⟨f.toNat,p.toNat,hi,by omega,by omega,by rw[he];exact hj⟩
end
end Go.Proofs.YtdlkbbgmjilccaaGreatDoor
