/- RV1 -/
import Derived.WalkKit
import Derived.WalkSpells
import Derived.Test.YtbjmgmmekmfjhaaGreatDoorProg
import Derived.WalkLawsBesides
import Derived.Deep.QuietTactic
import Derived.BigQuiet
import Derived.Deep.RegionWith
set_option maxHeartbeats 32000000
namespace Go.Proofs.YtbjmgmmekmfjhaaGreatDoor
open Go.RowKit
theorem n_l {n:Nat}:n<=n:=Nat.le_refl n
theorem b_r {B:Nat} {w:World}:Below B w w:=Below.refl B w
theorem g_m {α:Type} {l:List α} {n:Nat} (h:n<l.length):l[n]∈l:=List.getElem_mem h
theorem sAr{α:Type}(l:List α)(i:Nat)(a:α):l.toArray.setIfInBounds i a=(l.set i a).toArray:=List.setIfInBounds_toArray l i a
theorem sZe{α:Type}{a b:α}{l:List α}:(a :: l).set 0 b=b :: l:=rfl
theorem sSu{α:Type}{a b:α}{l:List α}{n:Nat}:(a :: l).set (n+1) b=a :: l.set n b:=rfl
structure Fn where
 params:Int
 locals:Int
 code:List (Int×Int)
theorem dd{k:IntKind}{a b:Int}(h:a=b):Ending.returned (.int k a)=.returned (.int k b):=by rw[h]
theorem ax{a b:Bool}(h:a=b):Ending.returned (.bool a)=.returned (.bool b):=by rw[h]
theorem dJ(w:World)(C:Array Value)(t:TypeId)(j:Nat):(w.alloc (.cells C t)).cell? ⟨w.heap.size,j,none⟩=C[j]?:=World.cell?_alloc_mark w C t (0,0) j
def bc (w:World)(lo:Nat)(a:Option Addr)(ss:List ByteArray):Prop:=
 ∀i (h:i<ss.length),∃b off,a=some ⟨b,off,none⟩/\lo<=b/\w.cell? ⟨b,off+i,none⟩=some (.string ss[i])
def bn (w:World)(lo:Nat)(a:Option Addr)(xs:List (Int×Int)):Prop:=
 ∀i (h:i<xs.length),∃b off,a=some ⟨b,off,none⟩/\lo<=b/\w.cell? ⟨b,off+i*2,none⟩=some (.int .i64 xs[i].1)/\w.cell? ⟨b,off+i*2+1,none⟩=some (.int .i64 xs[i].2)
def FnsAt (w:World)(lo:Nat)(a:Option Addr)(fs:List Fn):Prop:=
 ∀i (h:i<fs.length),∃b off ca cc,a=some ⟨b,off,none⟩/\lo<=b/\w.cell? ⟨b,off+i*3,none⟩=some (.int .i64 fs[i].params) /\
  w.cell? ⟨b,off+i*3+1,none⟩=some (.int .i64 fs[i].locals)/\w.cell? ⟨b,off+i*3+2,none⟩=some (.slice ca fs[i].code.length cc)/\bn w lo ca fs[i].code
theorem bc.mono{w w':World}{lo:Nat}{a:Option Addr}{ss:List ByteArray}(h:bc w lo a ss)(hb:Below w.heap.size w w'):bc w' lo a ss:=by
 intro i hi;obtain⟨b,off,h1,h2,h3⟩:=h i hi;exact⟨b,off,h1,h2,cell_later hb h3⟩
theorem bn.mono{w w':World}{lo:Nat}{a:Option Addr}{xs:List (Int×Int)}(h:bn w lo a xs)(hb:Below w.heap.size w w'):bn w' lo a xs:=by
 intro i hi;obtain⟨b,off,h1,h2,h3,h4⟩:=h i hi;exact⟨b,off,h1,h2,cell_later hb h3,cell_later hb h4⟩
theorem FnsAt.mono{w w':World}{lo:Nat}{a:Option Addr}{fs:List Fn}(h:FnsAt w lo a fs)(hb:Below w.heap.size w w'):FnsAt w' lo a fs:=by
 intro i hi;obtain⟨b,off,ca,cc,h1,h2,h3,h4,h5,h6⟩:=h i hi;exact⟨b,off,ca,cc,h1,h2,cell_later hb h3,cell_later hb h4,cell_later hb h5,h6.mono hb⟩
theorem aY{w1:World}{base e size g n:Nat}{xs:List Value}(h:w1.ownsRow base e size (.slice (some ⟨g,0,none⟩) n n) n xs):∃cur,w1.heap[g]?=some (.cells cur e (0,0))/\cur.size=n*size:=by
 rcases h.2 with ⟨hv,-⟩ | ⟨g',cap,cur,hv,-,hh,-,-,hs,-⟩
 ·cases hv
 ·cases hv;exact⟨cur,hh,hs⟩
theorem ae{w:World}{g:Nat}{cs:Array Value}{t:TypeId}{fr:Nat×Nat}(h:w.heap[g]?=some (.cells cs t fr))(i:Nat):w.cell? ⟨g,i,none⟩=cs[i]?:=by simp[World.cell?,h]
theorem aq{w:World}{g:Nat}{cs:Array Value}{t:TypeId}(h:w.heap[g]?=some (.cells cs t (0,0)))(i:Nat):w.frozen? ⟨g,i,none⟩=false:=by simp[World.frozen?,h]
theorem ak{w:World}{g i:Nat}{cs:Array Value}{t:TypeId}{fr:Nat×Nat}(h:w.heap[g]?=some (.cells cs t fr))(v:Value):(w.setCell ⟨g,i,none⟩ v).heap[g]?=some (.cells (cs.setIfInBounds i v) t fr):=by
 rw[setCell_eq_setRow w g i cs t fr v h];exact setRow_heap w g _ _ t _ h
theorem ah{w w':World}{g:Nat}{o:Obj}(h:w.heap[g]?=some o)(hb:Below w.heap.size w w'):w'.heap[g]?=some o:=by
 have hlt:g<w.heap.size:=by
  rcases Nat.lt_or_ge g w.heap.size with h' | h'
  ·exact h'
  ·rw[Array.getElem?_eq_none h'] at h;cases h
 rw[hb.block g hlt,h]
theorem aC{cur:Array Value}{k:Nat}(v:Value)(h:k<cur.size):(cur.setIfInBounds k v)[k]?=some v:=by simp[h]
theorem aj{cur:Array Value}{k j:Nat}(v:Value)(h:j≠k):(cur.setIfInBounds k v)[j]?=cur[j]?:=Array.getElem?_setIfInBounds_ne (fun x=>h x.symm)
theorem al(w:World)(C:Array Value)(t:TypeId):(w.alloc (.cells C t)).heap[w.heap.size]?=some (.cells C t (0,0)):=by
 show (w.heap.push _)[w.heap.size]?=_
 simp
theorem au{w:World}{g:Nat}{o:Obj}(h:w.heap[g]?=some o)(x:Obj):(w.alloc x).heap[g]?=some o:=ah h (b_r.alloc n_l x)
def aZ (lo:Nat)(w w':World):Prop:=∀k,lo<=k->k<w.heap.size->w'.heap[k]?=w.heap[k]?
theorem aZ.refl(lo:Nat)(w:World):aZ lo w w:=fun _ _ _=>rfl
theorem aZ.setCell{lo:Nat}{w w':World}(h:aZ lo w w'){p:Addr}(hp:p.block<lo)(v:Value):aZ lo w (w'.setCell p v):=fun k hk hs=>by
 rw[Below.heap_setCell _ _ _ _ (by omega)];exact h k hk hs
theorem aZ.cell{lo:Nat}{w w':World}(h:aZ lo w w'){b off:Nat}{v:Value}(hb:lo<=b)(hc:w.cell? ⟨b,off,none⟩=some v):w'.cell? ⟨b,off,none⟩=some v:=by
 rw[World.cell?_of_block (w:=w) (h b hb (World.block_lt_of_cell? w _ hc))];exact hc
theorem bc.above{w w':World}{lo:Nat}{a:Option Addr}{ss:List ByteArray}(h:bc w lo a ss)(hb:aZ lo w w'):bc w' lo a ss:=by
 intro i hi;obtain⟨b,off,h1,h2,h3⟩:=h i hi;exact⟨b,off,h1,h2,hb.cell h2 h3⟩
theorem bn.above{w w':World}{lo:Nat}{a:Option Addr}{xs:List (Int×Int)}(h:bn w lo a xs)(hb:aZ lo w w'):bn w' lo a xs:=by
 intro i hi;obtain⟨b,off,h1,h2,h3,h4⟩:=h i hi;exact⟨b,off,h1,h2,hb.cell h2 h3,hb.cell h2 h4⟩
theorem FnsAt.above{w w':World}{lo:Nat}{a:Option Addr}{fs:List Fn}(h:FnsAt w lo a fs)(hb:aZ lo w w'):FnsAt w' lo a fs:=by
 intro i hi;obtain⟨b,off,ca,cc,h1,h2,h3,h4,h5,h6⟩:=h i hi;exact⟨b,off,ca,cc,h1,h2,hb.cell h2 h3,hb.cell h2 h4,hb.cell h2 h5,h6.above hb⟩
theorem bc.low{w:World}{lo lo':Nat}{a:Option Addr}{ss:List ByteArray}(h:bc w lo a ss)(hl:lo'<=lo):bc w lo' a ss:=fun i hi=>by
 obtain⟨b,off,h1,h2,h3⟩:=h i hi;exact⟨b,off,h1,by omega,h3⟩
theorem bn.low{w:World}{lo lo':Nat}{a:Option Addr}{xs:List (Int×Int)}(h:bn w lo a xs)(hl:lo'<=lo):bn w lo' a xs:=fun i hi=>by
 obtain⟨b,off,h1,h2,h3,h4⟩:=h i hi;exact⟨b,off,h1,by omega,h3,h4⟩
theorem FnsAt.low{w:World}{lo lo':Nat}{a:Option Addr}{fs:List Fn}(h:FnsAt w lo a fs)(hl:lo'<=lo):FnsAt w lo' a fs:=fun i hi=>by
 obtain⟨b,off,ca,cc,h1,h2,h3,h4,h5,h6⟩:=h i hi;exact⟨b,off,ca,cc,h1,by omega,h3,h4,h5,h6.low hl⟩
structure dm (ts:List ByteArray)(fs:List Fn):Prop where
 texts:ts.length<=1048576
 text:∀s∈ts,s.size<=1048576
 funcs:fs.length<=1048576
 code:∀f∈fs,f.code.length<=1048576
theorem ckb{w w':World}{b i:Nat}{c:Array Value}{t:TypeId}{f:Nat×Nat}{v:Value}(h:w.heap[b]?=some (.cells c t f))(hb:Below w.heap.size w w')(hv:c[i]?=some v):w'.cell? ⟨b,i,none⟩=some v:=by rw[ae (ah h hb)];exact hv
theorem ckc{w:World}{b i:Nat}{c:Array Value}{t:TypeId}{f:Nat×Nat}{v:Value}(h:w.heap[b]?=some (.cells c t f))(hv:c[i]?=some v):w.cell? ⟨b,i,none⟩=some v:=by rw[ae h];exact hv
theorem aF{B:Nat}{a w:World}(h:Below B a w)(n:Nat):Below B a (w.drewN n):=h.trans ⟨rfl,rfl,rfl,Nat.le_refl _,fun _ _=>rfl⟩
theorem aO(n lo hi:Int)(w:World) :
  Calls Tryz.prog 72 #[.int .i64 n,.int .i64 lo,.int .i64 hi] w fun e w'=>e=.returned (.bool (decide (lo<=n) && decide (n<=hi)))/\w'=w:=by
 by_cases h1:lo<=n
 ·by_cases h2:n<=hi
  all_goals
   go_enter Tryz.func72,Tryz.ntmps72
   go_wp2;go_ret
   exact⟨ax (by rw[Bool.eq_iff_iff];simp;omega),rfl⟩
 ·go_enter Tryz.func72,Tryz.ntmps72
  go_wp2;go_ret
  exact⟨ax (by rw[Bool.eq_iff_iff];simp;omega),rfl⟩
theorem szInsS_any(a:Option Addr)(n cap:Nat)(left:Int)(w:World)(h0:0<=left)(h1:left<=1048576)(hn:n<=maxLen) :
  Calls Tryz.prog 145 #[.slice a n cap,.int .i64 left] w fun e w'=>e=.returned (.int .i64 (if left<n then -1 else left-n))/\w'=w:=by
 unfold maxLen at hn;by_cases h:left<n
 all_goals
  go_enter Tryz.func145,Tryz.ntmps145
  go_wp2;go_ret
  exact⟨dd (by omega),rfl⟩
theorem szFunc_any(p l:Int)(a:Option Addr)(n cap:Nat)(left:Int)(w:World)(h0:0<=left)(h1:left<=1048576)(hn:n<=maxLen) :
  Calls Tryz.prog 92 #[.agg #[.int .i64 p,.int .i64 l,.slice a n cap],.int .i64 left] w fun e w'=>e=.returned (.int .i64 (if left<n then -1 else left-n))/\Below w.heap.size w w':=by
 by_cases h:left<n
 all_goals
  go_enter Tryz.func92,Tryz.ntmps92
  go_wp2_with (go_at_call 145;refine (szInsS_any _ _ _ _ _ h0 h1 hn).mono ?_;rintro e w' ⟨rfl,rfl⟩)
  go_ret
  exact⟨dd (by omega),b_r.alloc n_l _⟩
theorem bA{α:Type}{l:List α}{k:Nat}(h:k<l.length){p:α->Prop}(h1:∀x∈l.take k,p x)(h2:p l[k]):∀x∈l.take (k+1),p x:=by
 intro x hx;rw[List.take_succ_eq_append_getElem h] at hx;rcases List.mem_append.1 hx with hx | hx
 ·exact h1 x hx
 ·rw[List.mem_singleton.1 hx];exact h2
theorem szFuncS_any(a:Option Addr)(fs:List Fn)(cap:Nat)(left:Int)(w:World)(h0:0<=left)(h1:left<=1048576)(hn:fs.length<=maxLen)(hc:∀f∈fs,f.code.length<=maxLen)(hm:FnsAt w 0 a fs) :
  Calls Tryz.prog 46 #[.slice a fs.length cap,.int .i64 left] w fun e w'=>∃r:Int,e=.returned (.int .i64 r)/\r<=left/\(0<=r->fs.length<=1048576/\∀f∈fs,f.code.length<=1048576)/\Below w.heap.size w w':=by
 unfold maxLen at hn;by_cases h:left<fs.length
 ·go_enter Tryz.func46,Tryz.ntmps46
  go_wp2;go_ret
  exact⟨-1,rfl,by omega,by omega,Below.refl _ _⟩
 ·go_enter Tryz.func46,Tryz.ntmps46
  go_wp2;go_loopw [1,5] (fun l i wr=>∃(k:Nat) (q:Int),k<=fs.length/\i=.int .i64 k/\l=.int .i64 q/\0<=q/\q<=left-fs.length/\(∀f∈fs.take k,f.code.length<=1048576)/\Below w.heap.size w wr) (fun _ i _=>fs.length-(intOf i).toNat)
  case atStart=>exact⟨0,_,by omega,rfl,rfl,by omega,by omega,by simp,Below.refl _ _⟩
  case round=>
   obtain⟨k,q,hk,rfl,rfl,hq0,hq1,hall,hb⟩:=hrel;by_cases hlt:k<fs.length
   ·obtain⟨b,off,ca,cc,rfl,-,c1,c2,c3,-⟩:=hm k hlt;have c1':=cell_later hb c1;have c2':=cell_later hb c2;have c3':=cell_later hb c3;clear c1 c2 c3;have hck:=hc fs[k] (g_m hlt);by_cases hs:q<fs[k].code.length
    ·go_wp2_with (go_at_call 92;refine (szFunc_any _ _ _ _ _ _ _ hq0 (by omega) hck).mono ?_;rintro e w' ⟨rfl,hb'⟩)
     go_ret
     exact⟨_,rfl,by omega,by omega,hb.trans (hb'.mono hb.size)⟩
    ·go_wp2_with (go_at_call 92;refine (szFunc_any _ _ _ _ _ _ _ hq0 (by omega) hck).mono ?_;rintro e w' ⟨rfl,hb'⟩)
     go_roundw
     case rel=>exact⟨k+1,q-fs[k].code.length,by omega,by go_num,by rw[if_neg (by omega)],by omega,by omega,bA hlt hall (by omega),hb.trans (hb'.mono hb.size)⟩
     case measure=>simp[intOf];omega
   ·go_wp2;go_ret
    exact⟨q,rfl,by omega,fun _=>⟨by omega,by rwa [List.take_of_length_le (by omega)] at hall⟩,hb⟩
theorem szStringS_any(a:Option Addr)(ss:List ByteArray)(cap:Nat)(left:Int)(w:World)(h0:0<=left)(h1:left<=1048576)(hn:ss.length<=maxLen)(hc:∀s∈ss,s.size<=maxLen)(hm:bc w 0 a ss) :
  Calls Tryz.prog 45 #[.slice a ss.length cap,.int .i64 left] w fun e w'=>∃r:Int,e=.returned (.int .i64 r)/\r<=left/\(0<=r->ss.length<=1048576/\∀s∈ss,s.size<=1048576)/\Below w.heap.size w w':=by
 unfold maxLen at hn;by_cases h:left<ss.length
 ·go_enter Tryz.func45,Tryz.ntmps45
  go_wp2;go_ret
  exact⟨-1,rfl,by omega,by omega,Below.refl _ _⟩
 ·go_enter Tryz.func45,Tryz.ntmps45
  go_wp2;go_loopw [1,5] (fun l i wr=>∃(k:Nat) (q:Int),k<=ss.length/\i=.int .i64 k/\l=.int .i64 q/\0<=q/\q<=left-ss.length/\(∀s∈ss.take k,s.size<=1048576)/\Below w.heap.size w wr) (fun _ i _=>ss.length-(intOf i).toNat)
  case atStart=>exact⟨0,_,by omega,rfl,rfl,by omega,by omega,by simp,Below.refl _ _⟩
  case round=>
   obtain⟨k,q,hk,rfl,rfl,hq0,hq1,hall,hb⟩:=hrel;by_cases hlt:k<ss.length
   ·obtain⟨b,off,rfl,-,c1⟩:=hm k hlt;have c1':=cell_later hb c1;clear c1;have hck:=hc ss[k] (g_m hlt);unfold maxLen at hck;by_cases hs:q<ss[k].size
    ·go_wp2;go_ret
     exact⟨_,rfl,by omega,by omega,hb⟩
    ·go_wp2;go_roundw
     case rel=>exact⟨k+1,q-ss[k].size,by omega,by go_num,rfl,by omega,by omega,bA hlt hall (by omega),hb⟩
     case measure=>simp[intOf];omega
   ·go_wp2;go_ret
    exact⟨q,rfl,by omega,fun _=>⟨by omega,by rwa [List.take_of_length_le (by omega)] at hall⟩,hb⟩
end Go.Proofs.YtbjmgmmekmfjhaaGreatDoor
namespace Go.Proofs.YtbjmgmmekmfjhaaGreatDoor
def eh (c:UInt8):Bool:=decide (32<=c.toNat) && decide (c.toNat<=126) && decide (c.toNat≠34)
def ck (s:ByteArray):Bool:=decide (s.size<=60) && s.data.toList.all eh
theorem dI{s:ByteArray}{k:Nat}(hk:k<s.size)(h:eh s[k]=false):ck s=false:=by
 unfold ck;rw[Bool.and_eq_false_iff];right
 rw[List.all_eq_false];exact⟨s[k],by simp[ByteArray.getElem_eq_getElem_data],by simp[h]⟩
theorem textB_yes{s:ByteArray}(h60:s.size<=60)(h:∀j (hj:j<s.size),eh s[j]=true):ck s=true:=by
 unfold ck;rw[Bool.and_eq_true];refine⟨by simpa using h60,?_⟩;rw[List.all_eq_true];intro x hx;obtain⟨i,hi,rfl⟩:=List.getElem_of_mem hx;exact h i (by simpa using hi)
def insB (nt nf loc nc op a:Int):Bool:=
 if op=1 then decide (-1000000000<=a) && decide (a<=1000000000)
 else if op=2 then decide (0<=a) && decide (a<=1)
 else if op=3 then decide (0<=a) && decide (a<nt)
 else if op=5\/op=24 then decide (0<=a) && decide (a<nf)
 else if op=6\/op=7 then decide (0<=a) && decide (a<loc)
 else if op=17\/op=18\/op=19 then decide (0<=a) && decide (a<nc)
 else if op=20 then decide (0<=a) && decide (a<=6)
 else if op=21\/op=22 then decide (0<=a) && decide (a<=5)
 else if op=23 then decide (0<=a) && decide (a<=6)
 else decide (1<=op) && decide (op<=26) && decide (a=0)
def cY (nt nf loc nc op:Int):Int×Int:=
 if op=1 then (-1000000000,1000000001)
 else if op=2 then (0,2)
 else if op=3 then (0,nt)
 else if op=5\/op=24 then (0,nf)
 else if op=6\/op=7 then (0,loc)
 else if op=17\/op=18\/op=19 then (0,nc)
 else if op=20 then (0,7)
 else if op=21\/op=22 then (0,6)
 else if op=23 then (0,7)
 else if 1<=op/\op<=26 then (0,1)
 else (0,0)
theorem ez(op:Int):op=1\/op=2\/op=3\/op=4\/op=5\/op=6\/op=7\/op=8\/op=9\/op=10\/op=11\/op=12\/op=13\/op=14\/op=15\/op=16\/op=17\/op=18\/op=19\/op=20\/op=21\/op=22\/op=23\/op=24\/op=25\/op=26\/op<1\/26<op:=by omega
theorem boundsB_out{nt nf loc nc op:Int}(h:op<1\/26<op):cY nt nf loc nc op=(0,0):=by
 unfold cY;repeat' split
 all_goals first | rfl | omega
theorem insB_out{nt nf loc nc op a:Int}(h:op<1\/26<op):insB nt nf loc nc op a=false:=by
 rw[Bool.eq_false_iff];unfold insB;repeat' split
 all_goals simp
 all_goals omega
theorem insB_bounds(nt nf loc nc op a:Int):(decide ((cY nt nf loc nc op).1<=a) && decide (a<(cY nt nf loc nc op).2))=insB nt nf loc nc op a:=by
 rw[Bool.eq_iff_iff];unfold cY insB;repeat' split
 all_goals simp
 all_goals omega
def fnB (nt nf:Int)(f:Fn):Bool:=
 decide (0<=f.params) && decide (f.params<=6) && decide (f.params<=f.locals) && decide (f.locals<=12) && decide (1<=f.code.length) && decide (f.code.length<=120) &&
  f.code.all fun x=>insB nt nf f.locals f.code.length x.1 x.2
def modB (ts:List ByteArray)(fs:List Fn):Bool:=
 decide (1<=fs.length) && decide (fs.length<=12) && decide (ts.length<=20) && ts.all ck && fs.all fun f=>fnB ts.length fs.length f
theorem b8{α:Type}{l:List α}{p:α->Bool}{k:Nat}(h:k<l.length)(h1:(l.take k).all p=true)(h2:p l[k]=true):(l.take (k+1)).all p=true:=by
 rw[List.take_succ_eq_append_getElem h,List.all_append,h1,List.all_cons,h2];rfl
theorem cT{α:Type}{l:List α}{p:α->Bool}{k:Nat}(h:k<l.length)(h2:p l[k]=false):l.all p=false:=by
 rw[List.all_eq_false];exact⟨l[k],g_m h,by simp[h2]⟩
theorem cD{α:Type}{l:List α}{p:α->Bool}{k:Nat}(h:l.length<=k)(h1:(l.take k).all p=true):l.all p=true:=by
 rwa [List.take_of_length_le h] at h1
end Go.Proofs.YtbjmgmmekmfjhaaGreatDoor
