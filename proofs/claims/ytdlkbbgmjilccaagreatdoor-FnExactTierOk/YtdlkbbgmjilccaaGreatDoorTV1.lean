/- TV1 -/
import Derived.WalkKit
import Derived.WalkSpells
import Derived.Test.YtdlkbbgmjilccaaGreatDoorProg
import Derived.WalkLawsBesides
import Derived.Deep.QuietTactic
import Derived.BigQuiet
import Derived.Deep.RegionWith
set_option maxHeartbeats 32000000
namespace Go.Proofs.YtdlkbbgmjilccaaGreatDoor
open Go.RowKit
theorem nL {n:Nat}:n<=n:=Nat.le_refl n
theorem gM {B:Nat} {w:World}:Below B w w:=Below.refl B w
theorem n_l {α:Type} {l:List α} {n:Nat} (h:n<l.length):l[n]∈l:=List.getElem_mem h
theorem sAr{α:Type}(l:List α)(i:Nat)(a:α):l.toArray.setIfInBounds i a=(l.set i a).toArray:=List.setIfInBounds_toArray l i a
theorem sZe{α:Type}{a b:α}{l:List α}:(a :: l).set 0 b=b :: l:=rfl
theorem sSu{α:Type}{a b:α}{l:List α}{n:Nat}:(a :: l).set (n+1) b=a :: l.set n b:=rfl
structure Fn where
 params:Int
 locals:Int
 code:List (Int×Int)
theorem cP{k:IntKind}{a b:Int}(h:a=b):Ending.returned (.int k a)=.returned (.int k b):=by rw[h]
theorem aj{a b:Bool}(h:a=b):Ending.returned (.bool a)=.returned (.bool b):=by rw[h]
theorem eg(w:World)(C:Array Value)(t:TypeId)(j:Nat):(w.alloc (.cells C t)).cell? ⟨w.heap.size,j,none⟩=C[j]?:=World.cell?_alloc_mark w C t (0,0) j
def aT (w:World)(lo:Nat)(a:Option Addr)(ss:List ByteArray):Prop:=
 ∀i (h:i<ss.length),∃b off,a=some ⟨b,off,none⟩/\lo<=b/\w.cell? ⟨b,off+i,none⟩=some (.string ss[i])
def bi (w:World)(lo:Nat)(a:Option Addr)(xs:List (Int×Int)):Prop:=
 ∀i (h:i<xs.length),∃b off,a=some ⟨b,off,none⟩/\lo<=b/\w.cell? ⟨b,off+i*2,none⟩=some (.int .i64 xs[i].1)/\w.cell? ⟨b,off+i*2+1,none⟩=some (.int .i64 xs[i].2)
def FnsAt (w:World)(lo:Nat)(a:Option Addr)(fs:List Fn):Prop:=
 ∀i (h:i<fs.length),∃b off ca cc,a=some ⟨b,off,none⟩/\lo<=b/\w.cell? ⟨b,off+i*3,none⟩=some (.int .i64 fs[i].params) /\
  w.cell? ⟨b,off+i*3+1,none⟩=some (.int .i64 fs[i].locals)/\w.cell? ⟨b,off+i*3+2,none⟩=some (.slice ca fs[i].code.length cc)/\bi w lo ca fs[i].code
theorem aT.mono{w w':World}{lo:Nat}{a:Option Addr}{ss:List ByteArray}(h:aT w lo a ss)(hb:Below w.heap.size w w'):aT w' lo a ss:=by
 intro i hi;obtain⟨b,off,h1,h2,h3⟩:=h i hi;exact⟨b,off,h1,h2,cell_later hb h3⟩
theorem bi.mono{w w':World}{lo:Nat}{a:Option Addr}{xs:List (Int×Int)}(h:bi w lo a xs)(hb:Below w.heap.size w w'):bi w' lo a xs:=by
 intro i hi;obtain⟨b,off,h1,h2,h3,h4⟩:=h i hi;exact⟨b,off,h1,h2,cell_later hb h3,cell_later hb h4⟩
theorem FnsAt.mono{w w':World}{lo:Nat}{a:Option Addr}{fs:List Fn}(h:FnsAt w lo a fs)(hb:Below w.heap.size w w'):FnsAt w' lo a fs:=by
 intro i hi;obtain⟨b,off,ca,cc,h1,h2,h3,h4,h5,h6⟩:=h i hi;exact⟨b,off,ca,cc,h1,h2,cell_later hb h3,cell_later hb h4,cell_later hb h5,h6.mono hb⟩
theorem aR{w1:World}{base e size g n:Nat}{xs:List Value}(h:w1.ownsRow base e size (.slice (some ⟨g,0,none⟩) n n) n xs):∃cur,w1.heap[g]?=some (.cells cur e (0,0))/\cur.size=n*size:=by
 rcases h.2 with ⟨hv,-⟩ | ⟨g',cap,cur,hv,-,hh,-,-,hs,-⟩
 ·cases hv
 ·cases hv;exact⟨cur,hh,hs⟩
theorem aa{w:World}{g:Nat}{cs:Array Value}{t:TypeId}{fr:Nat×Nat}(h:w.heap[g]?=some (.cells cs t fr))(i:Nat):w.cell? ⟨g,i,none⟩=cs[i]?:=by simp[World.cell?,h]
theorem am{w:World}{g:Nat}{cs:Array Value}{t:TypeId}(h:w.heap[g]?=some (.cells cs t (0,0)))(i:Nat):w.frozen? ⟨g,i,none⟩=false:=by simp[World.frozen?,h]
theorem ao{w:World}{g i:Nat}{cs:Array Value}{t:TypeId}{fr:Nat×Nat}(h:w.heap[g]?=some (.cells cs t fr))(v:Value):(w.setCell ⟨g,i,none⟩ v).heap[g]?=some (.cells (cs.setIfInBounds i v) t fr):=by
 rw[setCell_eq_setRow w g i cs t fr v h];exact setRow_heap w g _ _ t _ h
theorem ab{w w':World}{g:Nat}{o:Obj}(h:w.heap[g]?=some o)(hb:Below w.heap.size w w'):w'.heap[g]?=some o:=by
 have hlt:g<w.heap.size:=by
  rcases Nat.lt_or_ge g w.heap.size with h' | h'
  ·exact h'
  ·rw[Array.getElem?_eq_none h'] at h;cases h
 rw[hb.block g hlt,h]
theorem az{cur:Array Value}{k:Nat}(v:Value)(h:k<cur.size):(cur.setIfInBounds k v)[k]?=some v:=by simp[h]
theorem ac{cur:Array Value}{k j:Nat}(v:Value)(h:j≠k):(cur.setIfInBounds k v)[j]?=cur[j]?:=Array.getElem?_setIfInBounds_ne (fun x=>h x.symm)
theorem ah(w:World)(C:Array Value)(t:TypeId):(w.alloc (.cells C t)).heap[w.heap.size]?=some (.cells C t (0,0)):=by
 show (w.heap.push _)[w.heap.size]?=_
 simp
theorem al{w:World}{g:Nat}{o:Obj}(h:w.heap[g]?=some o)(x:Obj):(w.alloc x).heap[g]?=some o:=ab h (gM.alloc nL x)
def aL (lo:Nat)(w w':World):Prop:=∀k,lo<=k->k<w.heap.size->w'.heap[k]?=w.heap[k]?
theorem aL.refl(lo:Nat)(w:World):aL lo w w:=fun _ _ _=>rfl
theorem aL.setCell{lo:Nat}{w w':World}(h:aL lo w w'){p:Addr}(hp:p.block<lo)(v:Value):aL lo w (w'.setCell p v):=fun k hk hs=>by
 rw[Below.heap_setCell _ _ _ _ (by omega)];exact h k hk hs
theorem aL.cell{lo:Nat}{w w':World}(h:aL lo w w'){b off:Nat}{v:Value}(hb:lo<=b)(hc:w.cell? ⟨b,off,none⟩=some v):w'.cell? ⟨b,off,none⟩=some v:=by
 rw[World.cell?_of_block (w:=w) (h b hb (World.block_lt_of_cell? w _ hc))];exact hc
theorem aT.above{w w':World}{lo:Nat}{a:Option Addr}{ss:List ByteArray}(h:aT w lo a ss)(hb:aL lo w w'):aT w' lo a ss:=by
 intro i hi;obtain⟨b,off,h1,h2,h3⟩:=h i hi;exact⟨b,off,h1,h2,hb.cell h2 h3⟩
theorem bi.above{w w':World}{lo:Nat}{a:Option Addr}{xs:List (Int×Int)}(h:bi w lo a xs)(hb:aL lo w w'):bi w' lo a xs:=by
 intro i hi;obtain⟨b,off,h1,h2,h3,h4⟩:=h i hi;exact⟨b,off,h1,h2,hb.cell h2 h3,hb.cell h2 h4⟩
theorem FnsAt.above{w w':World}{lo:Nat}{a:Option Addr}{fs:List Fn}(h:FnsAt w lo a fs)(hb:aL lo w w'):FnsAt w' lo a fs:=by
 intro i hi;obtain⟨b,off,ca,cc,h1,h2,h3,h4,h5,h6⟩:=h i hi;exact⟨b,off,ca,cc,h1,h2,hb.cell h2 h3,hb.cell h2 h4,hb.cell h2 h5,h6.above hb⟩
theorem aT.low{w:World}{lo lo':Nat}{a:Option Addr}{ss:List ByteArray}(h:aT w lo a ss)(hl:lo'<=lo):aT w lo' a ss:=fun i hi=>by
 obtain⟨b,off,h1,h2,h3⟩:=h i hi;exact⟨b,off,h1,by omega,h3⟩
theorem bi.low{w:World}{lo lo':Nat}{a:Option Addr}{xs:List (Int×Int)}(h:bi w lo a xs)(hl:lo'<=lo):bi w lo' a xs:=fun i hi=>by
 obtain⟨b,off,h1,h2,h3,h4⟩:=h i hi;exact⟨b,off,h1,by omega,h3,h4⟩
theorem FnsAt.low{w:World}{lo lo':Nat}{a:Option Addr}{fs:List Fn}(h:FnsAt w lo a fs)(hl:lo'<=lo):FnsAt w lo' a fs:=fun i hi=>by
 obtain⟨b,off,ca,cc,h1,h2,h3,h4,h5,h6⟩:=h i hi;exact⟨b,off,ca,cc,h1,by omega,h3,h4,h5,h6.low hl⟩
structure b9 (ts:List ByteArray)(fs:List Fn):Prop where
 texts:ts.length<=1048576
 text:∀s∈ts,s.size<=1048576
 funcs:fs.length<=1048576
 code:∀f∈fs,f.code.length<=1048576
theorem ckb{w w':World}{b i:Nat}{c:Array Value}{t:TypeId}{f:Nat×Nat}{v:Value}(h:w.heap[b]?=some (.cells c t f))(hb:Below w.heap.size w w')(hv:c[i]?=some v):w'.cell? ⟨b,i,none⟩=some v:=by rw[aa (ab h hb)];exact hv
theorem ckc{w:World}{b i:Nat}{c:Array Value}{t:TypeId}{f:Nat×Nat}{v:Value}(h:w.heap[b]?=some (.cells c t f))(hv:c[i]?=some v):w.cell? ⟨b,i,none⟩=some v:=by rw[aa h];exact hv
theorem aC{B:Nat}{a w:World}(h:Below B a w)(n:Nat):Below B a (w.drewN n):=h.trans ⟨rfl,rfl,rfl,Nat.le_refl _,fun _ _=>rfl⟩
theorem aB(n lo hi:Int)(w:World) :
  Calls Tryz.prog 45 #[.int .i64 n,.int .i64 lo,.int .i64 hi] w fun e w'=>e=.returned (.bool (decide (lo<=n) && decide (n<=hi)))/\w'=w:=by
 by_cases h1:lo<=n
 ·by_cases h2:n<=hi
  all_goals
   go_enter Tryz.func45,Tryz.ntmps45
   go_wp2;go_ret
   exact⟨aj (by rw[Bool.eq_iff_iff];simp;omega),rfl⟩
 ·go_enter Tryz.func45,Tryz.ntmps45
  go_wp2;go_ret
  exact⟨aj (by rw[Bool.eq_iff_iff];simp;omega),rfl⟩
theorem szInsS_any(a:Option Addr)(n cap:Nat)(left:Int)(w:World)(h0:0<=left)(h1:left<=1048576)(hn:n<=maxLen) :
  Calls Tryz.prog 77 #[.slice a n cap,.int .i64 left] w fun e w'=>e=.returned (.int .i64 (if left<n then -1 else left-n))/\w'=w:=by
 unfold maxLen at hn;by_cases h:left<n
 all_goals
  go_enter Tryz.func77,Tryz.ntmps77
  go_wp2;go_ret
  exact⟨cP (by omega),rfl⟩
theorem szFunc_any(p l:Int)(a:Option Addr)(n cap:Nat)(left:Int)(w:World)(h0:0<=left)(h1:left<=1048576)(hn:n<=maxLen) :
  Calls Tryz.prog 37 #[.agg #[.int .i64 p,.int .i64 l,.slice a n cap],.int .i64 left] w fun e w'=>e=.returned (.int .i64 (if left<n then -1 else left-n))/\Below w.heap.size w w':=by
 by_cases h:left<n
 all_goals
  go_enter Tryz.func37,Tryz.ntmps37
  go_wp2_with (go_at_call 77;refine (szInsS_any _ _ _ _ _ h0 h1 hn).mono ?_;rintro e w' ⟨rfl,rfl⟩)
  go_ret
  exact⟨cP (by omega),gM.alloc nL _⟩
theorem aP{α:Type}{l:List α}{k:Nat}(h:k<l.length){p:α->Prop}(h1:∀x∈l.take k,p x)(h2:p l[k]):∀x∈l.take (k+1),p x:=by
 intro x hx;rw[List.take_succ_eq_append_getElem h] at hx;rcases List.mem_append.1 hx with hx | hx
 ·exact h1 x hx
 ·rw[List.mem_singleton.1 hx];exact h2
theorem szFuncS_any(a:Option Addr)(fs:List Fn)(cap:Nat)(left:Int)(w:World)(h0:0<=left)(h1:left<=1048576)(hn:fs.length<=maxLen)(hc:∀f∈fs,f.code.length<=maxLen)(hm:FnsAt w 0 a fs) :
  Calls Tryz.prog 13 #[.slice a fs.length cap,.int .i64 left] w fun e w'=>∃r:Int,e=.returned (.int .i64 r)/\r<=left/\(0<=r->fs.length<=1048576/\∀f∈fs,f.code.length<=1048576)/\Below w.heap.size w w':=by
 unfold maxLen at hn;by_cases h:left<fs.length
 ·go_enter Tryz.func13,Tryz.ntmps13
  go_wp2;go_ret
  exact⟨-1,rfl,by omega,by omega,Below.refl _ _⟩
 ·go_enter Tryz.func13,Tryz.ntmps13
  go_wp2;go_loopw [1,5] (fun l i wr=>∃(k:Nat) (q:Int),k<=fs.length/\i=.int .i64 k/\l=.int .i64 q/\0<=q/\q<=left-fs.length/\(∀f∈fs.take k,f.code.length<=1048576)/\Below w.heap.size w wr) (fun _ i _=>fs.length-(intOf i).toNat)
  case atStart=>exact⟨0,_,by omega,rfl,rfl,by omega,by omega,by simp,Below.refl _ _⟩
  case round=>
   obtain⟨k,q,hk,rfl,rfl,hq0,hq1,hall,hb⟩:=hrel;by_cases hlt:k<fs.length
   ·obtain⟨b,off,ca,cc,rfl,-,c1,c2,c3,-⟩:=hm k hlt;have c1':=cell_later hb c1;have c2':=cell_later hb c2;have c3':=cell_later hb c3;clear c1 c2 c3;have hck:=hc fs[k] (n_l hlt);by_cases hs:q<fs[k].code.length
    ·go_wp2_with (go_at_call 37;refine (szFunc_any _ _ _ _ _ _ _ hq0 (by omega) hck).mono ?_;rintro e w' ⟨rfl,hb'⟩)
     go_ret
     exact⟨_,rfl,by omega,by omega,hb.trans (hb'.mono hb.size)⟩
    ·go_wp2_with (go_at_call 37;refine (szFunc_any _ _ _ _ _ _ _ hq0 (by omega) hck).mono ?_;rintro e w' ⟨rfl,hb'⟩)
     go_roundw
     case rel=>exact⟨k+1,q-fs[k].code.length,by omega,by go_num,by rw[if_neg (by omega)],by omega,by omega,aP hlt hall (by omega),hb.trans (hb'.mono hb.size)⟩
     case measure=>simp[intOf];omega
   ·go_wp2;go_ret
    exact⟨q,rfl,by omega,fun _=>⟨by omega,by rwa [List.take_of_length_le (by omega)] at hall⟩,hb⟩
theorem szStringS_any(a:Option Addr)(ss:List ByteArray)(cap:Nat)(left:Int)(w:World)(h0:0<=left)(h1:left<=1048576)(hn:ss.length<=maxLen)(hc:∀s∈ss,s.size<=maxLen)(hm:aT w 0 a ss) :
  Calls Tryz.prog 12 #[.slice a ss.length cap,.int .i64 left] w fun e w'=>∃r:Int,e=.returned (.int .i64 r)/\r<=left/\(0<=r->ss.length<=1048576/\∀s∈ss,s.size<=1048576)/\Below w.heap.size w w':=by
 unfold maxLen at hn;by_cases h:left<ss.length
 ·go_enter Tryz.func12,Tryz.ntmps12
  go_wp2;go_ret
  exact⟨-1,rfl,by omega,by omega,Below.refl _ _⟩
 ·go_enter Tryz.func12,Tryz.ntmps12
  go_wp2;go_loopw [1,5] (fun l i wr=>∃(k:Nat) (q:Int),k<=ss.length/\i=.int .i64 k/\l=.int .i64 q/\0<=q/\q<=left-ss.length/\(∀s∈ss.take k,s.size<=1048576)/\Below w.heap.size w wr) (fun _ i _=>ss.length-(intOf i).toNat)
  case atStart=>exact⟨0,_,by omega,rfl,rfl,by omega,by omega,by simp,Below.refl _ _⟩
  case round=>
   obtain⟨k,q,hk,rfl,rfl,hq0,hq1,hall,hb⟩:=hrel;by_cases hlt:k<ss.length
   ·obtain⟨b,off,rfl,-,c1⟩:=hm k hlt;have c1':=cell_later hb c1;clear c1;have hck:=hc ss[k] (n_l hlt);unfold maxLen at hck;by_cases hs:q<ss[k].size
    ·go_wp2;go_ret
     exact⟨_,rfl,by omega,by omega,hb⟩
    ·go_wp2;go_roundw
     case rel=>exact⟨k+1,q-ss[k].size,by omega,by go_num,rfl,by omega,by omega,aP hlt hall (by omega),hb⟩
     case measure=>simp[intOf];omega
   ·go_wp2;go_ret
    exact⟨q,rfl,by omega,fun _=>⟨by omega,by rwa [List.take_of_length_le (by omega)] at hall⟩,hb⟩
end Go.Proofs.YtdlkbbgmjilccaaGreatDoor
namespace Go.Proofs.YtdlkbbgmjilccaaGreatDoor
def dt (c:UInt8):Bool:=decide (32<=c.toNat) && decide (c.toNat<=126) && decide (c.toNat≠34)
def bg (s:ByteArray):Bool:=decide (s.size<=60) && s.data.toList.all dt
theorem dm{s:ByteArray}{k:Nat}(hk:k<s.size)(h:dt s[k]=false):bg s=false:=by
 unfold bg;rw[Bool.and_eq_false_iff];right
 rw[List.all_eq_false];exact⟨s[k],by simp[ByteArray.getElem_eq_getElem_data],by simp[h]⟩
theorem textB_yes{s:ByteArray}(h60:s.size<=60)(h:∀j (hj:j<s.size),dt s[j]=true):bg s=true:=by
 unfold bg;rw[Bool.and_eq_true];refine⟨by simpa using h60,?_⟩;rw[List.all_eq_true];intro x hx;obtain⟨i,hi,rfl⟩:=List.getElem_of_mem hx;exact h i (by simpa using hi)
def insB (nt nf loc nc op a:Int):Bool:=
 if op=1 then decide (-1000000000<=a) && decide (a<=1000000000)
 else if op=2 then decide (0<=a) && decide (a<=1)
 else if op=3 then decide (0<=a) && decide (a<nt)
 else if op=5\/op=24 then decide (0<=a) && decide (a<nf)
 else if op=6\/op=7 then decide (0<=a) && decide (a<loc)
 else if op=17\/op=18\/op=19 then decide (0<=a) && decide (a<nc)
 else if op=20 then decide (0<=a) && decide (a<=6)
 else if op=21\/op=22 then decide (0<=a) && decide (a<=5)
 else if op=23 then decide (0<=a) && decide (a<=6)
 else decide (1<=op) && decide (op<=26) && decide (a=0)
def cB (nt nf loc nc op:Int):Int×Int:=
 if op=1 then (-1000000000,1000000001)
 else if op=2 then (0,2)
 else if op=3 then (0,nt)
 else if op=5\/op=24 then (0,nf)
 else if op=6\/op=7 then (0,loc)
 else if op=17\/op=18\/op=19 then (0,nc)
 else if op=20 then (0,7)
 else if op=21\/op=22 then (0,6)
 else if op=23 then (0,7)
 else if 1<=op/\op<=26 then (0,1)
 else (0,0)
theorem dC(op:Int):op=1\/op=2\/op=3\/op=4\/op=5\/op=6\/op=7\/op=8\/op=9\/op=10\/op=11\/op=12\/op=13\/op=14\/op=15\/op=16\/op=17\/op=18\/op=19\/op=20\/op=21\/op=22\/op=23\/op=24\/op=25\/op=26\/op<1\/26<op:=by omega
theorem boundsB_out{nt nf loc nc op:Int}(h:op<1\/26<op):cB nt nf loc nc op=(0,0):=by
 unfold cB;repeat' split
 all_goals first | rfl | omega
theorem insB_out{nt nf loc nc op a:Int}(h:op<1\/26<op):insB nt nf loc nc op a=false:=by
 rw[Bool.eq_false_iff];unfold insB;repeat' split
 all_goals simp
 all_goals omega
theorem insB_bounds(nt nf loc nc op a:Int):(decide ((cB nt nf loc nc op).1<=a) && decide (a<(cB nt nf loc nc op).2))=insB nt nf loc nc op a:=by
 rw[Bool.eq_iff_iff];unfold cB insB;repeat' split
 all_goals simp
 all_goals omega
def fnB (nt nf:Int)(f:Fn):Bool:=
 decide (0<=f.params) && decide (f.params<=6) && decide (f.params<=f.locals) && decide (f.locals<=12) && decide (1<=f.code.length) && decide (f.code.length<=120) &&
  f.code.all fun x=>insB nt nf f.locals f.code.length x.1 x.2
def modB (ts:List ByteArray)(fs:List Fn):Bool:=
 decide (1<=fs.length) && decide (fs.length<=12) && decide (ts.length<=20) && ts.all bg && fs.all fun f=>fnB ts.length fs.length f
theorem bE{α:Type}{l:List α}{p:α->Bool}{k:Nat}(h:k<l.length)(h1:(l.take k).all p=true)(h2:p l[k]=true):(l.take (k+1)).all p=true:=by
 rw[List.take_succ_eq_append_getElem h,List.all_append,h1,List.all_cons,h2];rfl
theorem cd{α:Type}{l:List α}{p:α->Bool}{k:Nat}(h:k<l.length)(h2:p l[k]=false):l.all p=false:=by
 rw[List.all_eq_false];exact⟨l[k],n_l h,by simp[h2]⟩
theorem bL{α:Type}{l:List α}{p:α->Bool}{k:Nat}(h:l.length<=k)(h1:(l.take k).all p=true):l.all p=true:=by
 rwa [List.take_of_length_le h] at h1
end Go.Proofs.YtdlkbbgmjilccaaGreatDoor
namespace Go.Proofs.YtdlkbbgmjilccaaGreatDoor
open Go.RowKit
theorem ch(s:ByteArray)(w:World)(hs:s.size<=1048576) :
  Calls Tryz.prog 88 #[.string s] w fun e w'=>e=.returned (.bool (bg s))/\w'=w:=by
 by_cases h60:s.size<=60
 ·go_enter Tryz.func88,Tryz.ntmps88
  go_wp2;go_loop [3] (fun i=>∃k:Nat,k<=s.size/\i=.int .i64 k/\∀j (hj:j<s.size),j<k->dt s[j]=true) (fun i=>s.size-(intOf i).toNat)
  case atStart=>exact⟨0,by omega,rfl,fun j _ h=>by omega⟩
  case round=>
   obtain⟨k,hk,rfl,hall⟩:=hrel;by_cases hlt:k<s.size
   ·by_cases b1:(s[k].toNat:Int)<32
    ·go_wp2;go_ret
     exact⟨aj (dm hlt (by unfold dt;simp;omega)).symm,rfl⟩
    by_cases b2:126<(s[k].toNat:Int)
    ·go_wp2;go_ret
     exact⟨aj (dm hlt (by unfold dt;simp;omega)).symm,rfl⟩
    by_cases b3:(s[k].toNat:Int)=34
    ·have b3':((s[k].toNat:Int) == 34)=true:=by simpa using b3
     have hno:=dm hlt (by unfold dt;simp;omega);clear b3;go_wp2;go_ret
     exact⟨rfl,rfl⟩
    ·have b3':((s[k].toNat:Int) == 34)=false:=by simpa using b3
     have hyes:dt s[k]=true:=by unfold dt;simp;omega
     go_wp2;go_round
     case rel=>
      refine⟨k+1,by omega,by go_num,fun j hj hjk=>?_⟩;by_cases e:j=k
      ·subst e;exact hyes
      ·exact hall j hj (by omega)
     case measure=>simp[intOf];omega
   ·go_wp2;go_ret
    exact⟨aj (textB_yes h60 fun j hj=>hall j hj (by omega)).symm,rfl⟩
 ·go_enter Tryz.func88,Tryz.ntmps88
  go_wp2;go_ret
  exact⟨aj (by simp[bg,h60]),rfl⟩
theorem dj(s:ByteArray)(w:World)(hs:s.size<=1048576) :
  Calls Tryz.prog 105 #[.string s] w fun e w'=>e=.returned (.bool (bg s))/\w'=w:=by
 by_cases h60:s.size<=60
 ·go_enter Tryz.func105,Tryz.ntmps105
  go_wp2;go_loop [3] (fun i=>∃k:Nat,k<=s.size/\i=.int .i64 k/\∀j (hj:j<s.size),j<k->dt s[j]=true) (fun i=>s.size-(intOf i).toNat)
  case atStart=>exact⟨0,by omega,rfl,fun j _ h=>by omega⟩
  case round=>
   obtain⟨k,hk,rfl,hall⟩:=hrel;by_cases hlt:k<s.size
   ·by_cases b1:(s[k].toNat:Int)<32
    ·go_wp2;go_ret
     exact⟨aj (dm hlt (by unfold dt;simp;omega)).symm,rfl⟩
    by_cases b2:126<(s[k].toNat:Int)
    ·go_wp2;go_ret
     exact⟨aj (dm hlt (by unfold dt;simp;omega)).symm,rfl⟩
    by_cases b3:(s[k].toNat:Int)=34
    ·have b3':((s[k].toNat:Int) == 34)=true:=by simpa using b3
     have hno:=dm hlt (by unfold dt;simp;omega);clear b3;go_wp2;go_ret
     exact⟨rfl,rfl⟩
    ·have b3':((s[k].toNat:Int) == 34)=false:=by simpa using b3
     have hyes:dt s[k]=true:=by unfold dt;simp;omega
     go_wp2;go_round
     case rel=>
      refine⟨k+1,by omega,by go_num,fun j hj hjk=>?_⟩;by_cases e:j=k
      ·subst e;exact hyes
      ·exact hall j hj (by omega)
     case measure=>simp[intOf];omega
   ·go_wp2;go_ret
    exact⟨aj (textB_yes h60 fun j hj=>hall j hj (by omega)).symm,rfl⟩
 ·go_enter Tryz.func105,Tryz.ntmps105
  go_wp2;go_ret
  exact⟨aj (by simp[bg,h60]),rfl⟩
theorem argBounds_any(a1 a2 a3:Option Addr)(nt c1 nf c2 nc c3:Nat)(p l op:Int)(w:World) :
  Calls Tryz.prog 202 #[.agg #[.slice a1 nt c1,.slice a2 nf c2],.agg #[.int .i64 p,.int .i64 l,.slice a3 nc c3],.int .i64 op] w fun e w'=>e=.returned (.tuple #[.int .i64 (cB nt nf l nc op).1,.int .i64 (cB nt nf l nc op).2])/\Below w.heap.size w w':=by
 rcases dC op with rfl | rfl | rfl | rfl | rfl | rfl | rfl | rfl | rfl | rfl | rfl | rfl | rfl | rfl | rfl | rfl | rfl | rfl | rfl | rfl | rfl | rfl | rfl | rfl | rfl | rfl | h | h
 case inr.inr.inr.inr.inr.inr.inr.inr.inr.inr.inr.inr.inr.inr.inr.inr.inr.inr.inr.inr.inr.inr.inr.inr.inr.inr.inl=>
  have hbb:=boundsB_out (nt:=nt) (nf:=nf) (loc:=l) (nc:=nc) (Or.inl h:op<1\/26<op);rw[hbb];clear hbb;go_enter Tryz.func202,Tryz.ntmps202
  go_wp2;go_ret2
  exact⟨rfl,(gM.alloc nL _).alloc (by simp) _⟩
 case inr.inr.inr.inr.inr.inr.inr.inr.inr.inr.inr.inr.inr.inr.inr.inr.inr.inr.inr.inr.inr.inr.inr.inr.inr.inr.inr=>
  have hbb:=boundsB_out (nt:=nt) (nf:=nf) (loc:=l) (nc:=nc) (Or.inr h:op<1\/26<op);rw[hbb];clear hbb;go_enter Tryz.func202,Tryz.ntmps202
  go_wp2;go_ret2
  exact⟨rfl,(gM.alloc nL _).alloc (by simp) _⟩
 all_goals
  go_enter Tryz.func202,Tryz.ntmps202
  go_wp2;try go_quiet (fail)
  try go_wp2
  go_ret2
  refine⟨rfl,?_⟩;first | exact (gM.alloc nL _).alloc (by simp) _ | exact aC ((gM.alloc nL _).alloc (by simp) _) _
end Go.Proofs.YtdlkbbgmjilccaaGreatDoor
namespace Go.Proofs.YtdlkbbgmjilccaaGreatDoor
theorem aq{w:World}{g:Nat}{o:Obj}(h:w.heap[g]?=some o):g<w.heap.size:=by
 rcases Nat.lt_or_ge g w.heap.size with h' | h'
 ·exact h'
 ·rw[Array.getElem?_eq_none h'] at h;cases h
theorem fnB_no{nt nf:Int}{f:Fn}(h:¬(0<=f.params/\f.params<=6/\f.params<=f.locals/\f.locals<=12/\1<=f.code.length/\f.code.length<=120)):fnB nt nf f=false:=by
 rw[Bool.eq_false_iff];intro hc;apply h
 unfold fnB at hc;simp only[Bool.and_eq_true,decide_eq_true_eq] at hc
 omega
theorem fnB_all{nt nf:Int}{f:Fn}(h:0<=f.params/\f.params<=6/\f.params<=f.locals/\f.locals<=12/\1<=f.code.length/\f.code.length<=120):fnB nt nf f=f.code.all fun x=>insB nt nf f.locals f.code.length x.1 x.2:=by
 obtain⟨h1,h2,h3,h4,h5,h6⟩:=h;unfold fnB;rw[decide_eq_true h1,decide_eq_true h2,decide_eq_true h3,decide_eq_true h4,decide_eq_true h5,decide_eq_true h6];rfl
theorem modB_no{ts:List ByteArray}{fs:List Fn}(h:¬(1<=fs.length/\fs.length<=12/\ts.length<=20)):modB ts fs=false:=by
 rw[Bool.eq_false_iff];intro hc;apply h
 unfold modB at hc;simp only[Bool.and_eq_true,decide_eq_true_eq] at hc
 omega
theorem modB_all{ts:List ByteArray}{fs:List Fn}(h:1<=fs.length/\fs.length<=12/\ts.length<=20):modB ts fs=(ts.all bg && fs.all fun f=>fnB ts.length fs.length f):=by
 obtain⟨h1,h2,h3⟩:=h;unfold modB;rw[decide_eq_true h1,decide_eq_true h2,decide_eq_true h3];rfl
def aG (fs:List Fn)(op a:Int):Int×Int:=
 if op=1\/op=2\/op=3\/op=4\/op=5\/op=6\/op=20 then (0,1)
 else if op=7\/op=9\/op=18\/op=19\/op=25\/op=26 then (1,0)
 else if op=8 then (1,2)
 else if op=10 then (2,2)
 else if op=11\/op=12\/op=13\/op=14\/op=15 then (2,1)
 else if op=16\/op=21 then (1,1)
 else if op=22 then (2,0)
 else if op=23 then (if 0<=a/\a<=6 then (a+1,1) else (0,0))
 else if op=24 then (if h:0<=a/\a<fs.length then ((fs[a.toNat]'(by omega)).params,1) else (0,0))
 else (0,0)
theorem dE{fs:List Fn}{op a:Int}(h:op<1\/26<op):aG fs op a=(0,0):=by
 unfold aG;repeat' split
 all_goals first | rfl | omega
theorem di{fs:List Fn}(h:∀f∈fs,0<=f.params/\f.params<=6)(op a:Int):0<=(aG fs op a).1/\(aG fs op a).1<=7/\0<=(aG fs op a).2/\(aG fs op a).2<=2:=by
 unfold aG;repeat' split
 all_goals first | (refine⟨?_,?_,?_,?_⟩<;>simp<;>omega) | skip
 rename_i hx
 have:=h (fs[a.toNat]'(by omega)) (n_l _);refine⟨?_,?_,?_,?_⟩<;>simp<;>omega
def nextB (op a:Int)(pc:Nat):List Int:=if op=25 then [] else if op=17 then [a] else if op=18\/op=19 then [(pc:Int)+1,a] else [(pc:Int)+1]
def layB (left:Int)(h:List Int)(nx:Int):List Int:=if nx<h.length/\h.getD nx.toNat (-1)<0 then h.set nx.toNat left else h
def dI (fs:List Fn)(x:Int×Int)(pc:Nat)(h:List Int):List Int:=
 if h.getD pc (-1)<(aG fs x.1 x.2).1\/16<h.getD pc (-1)-(aG fs x.1 x.2).1+(aG fs x.1 x.2).2 then h
 else (nextB x.1 x.2 pc).foldl (layB (h.getD pc (-1)-(aG fs x.1 x.2).1+(aG fs x.1 x.2).2)) h
def bk (fs:List Fn)(code:List (Int×Int)):Nat->List Int->List Int
 | 0,h=>h
 | k+1,h=>dI fs (code.getD k (0,0)) k (bk fs code k h)
def cU (fs:List Fn)(code:List (Int×Int))(h:List Int):List Int:=bk fs code code.length h
def fK (n:Nat):List Int:=(List.replicate n (-1)).set 0 0
def br (fs:List Fn)(code:List (Int×Int)):Nat->List Int
 | 0=>fK code.length
 | k+1=>cU fs code (br fs code k)
def Done (fs:List Fn)(code:List (Int×Int))(d:List Int):Prop:=(∃k,d=br fs code k)/\cU fs code d=d
theorem iter_more{fs:List Fn}{code:List (Int×Int)}{k:Nat}(h:cU fs code (br fs code k)=br fs code k)(j:Nat):br fs code (k+j)=br fs code k:=by
 induction j with
 | zero=>rfl
 | succ j ih=>show cU fs code (br fs code (k+j))=_;rw[ih,h]
theorem Done.one{fs:List Fn}{code:List (Int×Int)}{d e:List Int}(hd:Done fs code d)(he:Done fs code e):d=e:=by
 obtain⟨⟨k,rfl⟩,h1⟩:=hd;obtain⟨⟨j,rfl⟩,h2⟩:=he;rcases Nat.le_total k j with h | h
 ·have:=iter_more h1 (j-k);rw[show k+(j-k)=j by omega] at this
  exact this.symm
 ·have:=iter_more h2 (k-j);rw[show j+(k-j)=k by omega] at this
  exact this
def negs (h:List Int):Nat:=h.countP fun x=>decide (x<0)
structure Hts (n:Nat)(h:List Int):Prop where
 len:h.length=n
 low:∀i (hi:i<h.length),-1<=h[i]
 high:∀i (hi:i<h.length),h[i]<=16
theorem Hts.get{n:Nat}{h:List Int}(H:Hts n h){i:Nat}(hi:i<n):h.getD i (-1)=h[i]'(by rw[H.len];exact hi):=by
 rw[List.getD_eq_getElem?_getD,List.getElem?_eq_getElem (by rw[H.len];exact hi)];rfl
theorem eX{n:Nat}{h:List Int}{left nx:Int}(H:Hts n h)(h0:0<=left)(h1:left<=16):Hts n (layB left h nx):=by
 unfold layB;split
 ·refine⟨by rw[List.length_set];exact H.len,?_,?_⟩
  ·intro i hi;rw[List.getElem_set];split
   ·omega
   ·exact H.low i (by simpa using hi)
  ·intro i hi;rw[List.getElem_set];split
   ·omega
   ·exact H.high i (by simpa using hi)
 ·exact H
theorem ez{h:List Int}{left nx:Int}(h0:0<=left)(h1:0<=nx):(layB left h nx=h/\¬(nx<h.length/\h.getD nx.toNat (-1)<0))\/(nx<h.length/\h.getD nx.toNat (-1)<0/\layB left h nx=h.set nx.toNat left/\negs (layB left h nx)+1=negs h):=by
 unfold layB;by_cases hc:nx<h.length/\h.getD nx.toNat (-1)<0
 ·right
  rw[if_pos hc];refine⟨hc.1,hc.2,rfl,?_⟩;have hlt:nx.toNat<h.length:=by omega
  have hneg:h[nx.toNat]<0:=by
   have:=hc.2;rwa [List.getD_eq_getElem?_getD,List.getElem?_eq_getElem hlt,Option.getD_some] at this
  unfold negs;rw[List.countP_set hlt];have hpos:0<List.countP (fun x=>decide (x<0)) h:=List.countP_pos_iff.2 ⟨h[nx.toNat],n_l _,by simpa using hneg⟩;rw[if_pos (by simpa using hneg),if_neg (by simp;omega)];omega
 ·left
  rw[if_neg hc];exact⟨rfl,hc⟩
def Less (h h':List Int):Prop:=h'=h\/negs h'<negs h
theorem Less.trans{a b c:List Int}(h1:Less a b)(h2:Less b c):Less a c:=by
 rcases h1 with rfl | h1
 ·exact h2
 ·rcases h2 with rfl | h2
  ·exact Or.inr h1
  ·exact Or.inr (by omega)
theorem layB_Less{h:List Int}{left nx:Int}(h0:0<=left)(h1:0<=nx):Less h (layB left h nx):=by
 rcases ez (h:=h) h0 h1 with h | h
 ·exact Or.inl h.1
 ·exact Or.inr (by omega)
theorem nextB_nonneg{op a:Int}{pc:Nat}(h:op=17\/op=18\/op=19->0<=a):∀nx∈nextB op a pc,0<=nx:=by
 intro nx hnx;unfold nextB at hnx;split at hnx
 ·simp at hnx
 ·split at hnx
  ·simp at hnx;omega
  ·split at hnx
   ·simp at hnx;omega
   ·simp at hnx;omega
theorem fold_lay{n:Nat}{left:Int}(h0:0<=left)(h1:left<=16)(l:List Int)(hl:∀nx∈l,0<=nx):∀h,Hts n h->Hts n (l.foldl (layB left) h)/\Less h (l.foldl (layB left) h):=by
 induction l with
 | nil=>exact fun h H=>⟨H,Or.inl rfl⟩
 | cons x l ih=>
  intro h H;rw[List.foldl_cons];have:=ih (fun nx hnx=>hl nx (List.mem_cons_of_mem _ hnx)) (layB left h x) (eX H h0 h1);exact⟨this.1,(layB_Less h0 (hl x (List.mem_cons_self ..))).trans this.2⟩
structure Fine (fs:List Fn)(code:List (Int×Int)):Prop where
 params:∀f∈fs,0<=f.params/\f.params<=6
 one:1<=code.length
 most:code.length<=120
 jump:∀i (hi:i<code.length),code[i].1=17\/code[i].1=18\/code[i].1=19->0<=code[i].2/\code[i].2<code.length
theorem step_ok{fs:List Fn}{n:Nat}{x:Int×Int}{pc:Nat}{h:List Int}(hp:∀f∈fs,0<=f.params/\f.params<=6)(hj:x.1=17\/x.1=18\/x.1=19->0<=x.2)(H:Hts n h) :
  Hts n (dI fs x pc h)/\Less h (dI fs x pc h):=by
 unfold dI;split
 ·exact⟨H,Or.inl rfl⟩
 ·rename_i hc
  have hu:=di hp x.1 x.2;exact fold_lay (by omega) (by omega) _ (nextB_nonneg hj) _ H
theorem bW{code:List (Int×Int)}{k:Nat}(hk:k<code.length):code.getD k (0,0)=code[k]:=by
 rw[List.getD_eq_getElem?_getD,List.getElem?_eq_getElem hk];rfl
theorem du{fs:List Fn}{code:List (Int×Int)}(F:Fine fs code){h:List Int}(H:Hts code.length h)(k:Nat)(hk:k<=code.length):Hts code.length (bk fs code k h)/\Less h (bk fs code k h):=by
 induction k with
 | zero=>exact⟨H,Or.inl rfl⟩
 | succ k ih=>
  have:=ih (by omega);have h2:=step_ok (fs:=fs) (x:=code.getD k (0,0)) (pc:=k) F.params (by rw[bW (by omega)];exact fun hx=>(F.jump k (by omega) hx).1) this.1;exact⟨h2.1,this.2.trans h2.2⟩
theorem init_hts{n:Nat}:Hts n (fK n):=by
 unfold fK;refine⟨by simp,?_,?_⟩
 ·intro i hi;rw[List.getElem_set];split
  ·omega
  ·simp
 ·intro i hi;rw[List.getElem_set];split
  ·omega
  ·simp
theorem init_negs{n:Nat}(h:1<=n):negs (fK n)=n-1:=by
 unfold fK negs;rw[List.countP_set (by simp;omega)];simp[List.countP_replicate]
theorem dM{fs:List Fn}{code:List (Int×Int)}(F:Fine fs code)(k:Nat):Hts code.length (br fs code k):=by
 induction k with
 | zero=>exact init_hts
 | succ k ih=>exact (du F ih _ nL).1
theorem step_full{fs:List Fn}{n:Nat}{x:Int×Int}{pc:Nat}{h:List Int}(hp:∀f∈fs,0<=f.params/\f.params<=6)(hj:x.1=17\/x.1=18\/x.1=19->0<=x.2)(H:Hts n h)(h0:negs h=0):dI fs x pc h=h:=by
 rcases (step_ok hp hj H).2 with h | h
 ·exact h
 ·omega
theorem part_full{fs:List Fn}{code:List (Int×Int)}(F:Fine fs code){h:List Int}(H:Hts code.length h)(h0:negs h=0)(k:Nat)(hk:k<=code.length):bk fs code k h=h:=by
 rcases (du F H k hk).2 with h | h
 ·exact h
 ·omega
theorem part_rest{fs:List Fn}{code:List (Int×Int)}(F:Fine fs code){h:List Int}(H:Hts code.length h){k:Nat}(hk:k<=code.length)(h0:negs (bk fs code k h)=0)(j:Nat)(hj:k+j<=code.length):bk fs code (k+j) h=bk fs code k h:=by
 induction j with
 | zero=>rfl
 | succ j ih=>
  have e:=ih (by omega);show dI fs (code.getD (k+j) (0,0)) (k+j) (bk fs code (k+j) h)=_
  rw[e];exact step_full F.params (by rw[bW (by omega)];exact fun hx=>(F.jump _ (by omega) hx).1) (du F H k hk).1 h0
theorem done_full{fs:List Fn}{code:List (Int×Int)}(F:Fine fs code){j k:Nat}(hk:k<=code.length)(h0:negs (bk fs code k (br fs code j))=0):Done fs code (bk fs code k (br fs code j)):=by
 have H:=dM F j;have e:cU fs code (br fs code j)=bk fs code k (br fs code j):=by
  have:=part_rest F H hk h0 (code.length-k) (by omega);rw[show k+(code.length-k)=code.length by omega] at this
  exact this
 refine⟨⟨j+1,e.symm⟩,?_⟩;exact part_full F (du F H k hk).1 h0 _ nL
theorem done_same{fs:List Fn}{code:List (Int×Int)}(F:Fine fs code){j:Nat}(h0:negs (br fs code j)<=negs (bk fs code code.length (br fs code j))):Done fs code (bk fs code code.length (br fs code j)):=by
 have e:bk fs code code.length (br fs code j)=br fs code j:=by
  rcases (du F (dM F j) code.length nL).2 with h | h
  ·exact h
  ·omega
 refine⟨⟨j+1,rfl⟩,?_⟩;show cU fs code (cU fs code (br fs code j))=cU fs code (br fs code j)
 have e2:cU fs code (br fs code j)=br fs code j:=e;rw[e2,e2]
theorem Done.hts{fs:List Fn}{code:List (Int×Int)}(F:Fine fs code){d:List Int}(h:Done fs code d):Hts code.length d:=by
 obtain⟨⟨k,rfl⟩,-⟩:=h;exact dM F k
def aI (fs:List Fn)(code:List (Int×Int))(d:List Int)(pc:Nat):Int:=
 let x:=code.getD pc (0,0)
 let left:=d.getD pc (-1)-(aG fs x.1 x.2).1+(aG fs x.1 x.2).2
 if d.getD pc (-1)<0 then 0
 else if d.getD pc (-1)<(aG fs x.1 x.2).1\/16<left then 2
 else if (nextB x.1 x.2 pc).any (fun nx=>decide ((code.length:Int)<=nx)) then 3
 else if (nextB x.1 x.2 pc).any (fun nx=>decide (d.getD nx.toNat (-1)≠left)) then 4
 else 0
def fp (fs:List Fn)(code:List (Int×Int))(k:Nat):Prop:=∀d,Done fs code d->∀j,j<k->aI fs code d j=0
def Told (fs:List Fn)(c f at':Int):Prop:=
 (c=0/\f=0/\at'=0/\∀g (hg:g<fs.length),fp fs fs[g].code fs[g].code.length) \/
 (∃(g:Nat) (hg:g<fs.length) (k:Nat) (d:List Int),f=g/\at'=k/\k<fs[g].code.length/\Done fs fs[g].code d/\aI fs fs[g].code d k=c/\c≠0/\fp fs fs[g].code k/\∀g' (hg':g'<fs.length),g'<g->fp fs fs[g'].code fs[g'].code.length)
theorem Told.one{fs:List Fn}{c f a c' f' a':Int}(h:Told fs c f a)(h':Told fs c' f' a'):c=c'/\f=f'/\a=a':=by
 rcases h with ⟨rfl,rfl,rfl,hA⟩ | ⟨g,hg,k,d,rfl,rfl,hk,hd,ht,hc,hB,hA⟩
 ·rcases h' with ⟨rfl,rfl,rfl,-⟩ | ⟨g',hg',k',d',rfl,rfl,hk',hd',ht',hc',-,-⟩
  ·exact⟨rfl,rfl,rfl⟩
  ·exact absurd (ht'.symm.trans (hA g' hg' d' hd' k' hk')) hc'
 ·rcases h' with ⟨rfl,rfl,rfl,hA'⟩ | ⟨g',hg',k',d',rfl,rfl,hk',hd',ht',hc',hB',hA'⟩
  ·exact absurd (ht.symm.trans (hA' g hg d hd k hk)) hc
  ·obtain rfl:g=g':=by
    rcases Nat.lt_trichotomy g g' with h | h | h
    ·exact absurd (ht.symm.trans (hA' g hg h d hd k hk)) hc
    ·exact h
    ·exact absurd (ht'.symm.trans (hA g' hg' h d' hd' k' hk')) hc'
   obtain rfl:k=k':=by
    rcases Nat.lt_trichotomy k k' with h | h | h
    ·exact absurd (ht.symm.trans (hB' d hd k h)) hc
    ·exact h
    ·exact absurd (ht'.symm.trans (hB d' hd' k' h)) hc'
   obtain rfl:=hd.one hd';exact⟨ht.symm.trans ht',rfl,rfl⟩
end Go.Proofs.YtdlkbbgmjilccaaGreatDoor
