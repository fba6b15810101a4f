/- TV20 -/
import Derived.Test.YtdlkbbgmjilccaaGreatDoorTV3
import Derived.Test.YtdlkbbgmjilccaaGreatDoorTV8
import Derived.RangeFuncNested
import Derived.RangeFuncBound
import Derived.RangeFuncCalls
import Derived.RangeFuncLeaves
import Derived.Shelf.Abstract
import Derived.Shelf.RegionOpen
import Derived.OwnWalkIn
import Derived.TacticsInMore
import Derived.LoopNIn
import Derived.LoopIn
set_option maxHeartbeats 32000000
set_option maxRecDepth 100000
namespace Go.Proofs.YtdlkbbgmjilccaaGreatDoor
open Go.RowKit Go.Shelf
attribute [local go_sem] Oper.semAt_some
structure Jp where
 at':Nat
 op:Int
 a:Nat
 h1:at'+1<128
 h2:a<128
def isJ (code:List (Int×Int))(d:List Int)(k:Nat):Prop:=d.getD k (-1)≠-1/\((code.getD k (0,0)).1=17\/(code.getD k (0,0)).1=18\/(code.getD k (0,0)).1=19)
def JOk (code:List (Int×Int)):Prop:=code.length<=120/\∀k,k<code.length->((code.getD k (0,0)).1=17\/(code.getD k (0,0)).1=18\/(code.getD k (0,0)).1=19)->0<=(code.getD k (0,0)).2/\(code.getD k (0,0)).2<120
open Classical in
noncomputable def jl (code:List (Int×Int)) (d:List Int):Nat->List Jp
 | 0=>[]
 | k+1=>if h:isJ code d k/\k+1<128/\(code.getD k (0,0)).2.toNat<128 then jl code d k++[⟨k,(code.getD k (0,0)).1,(code.getD k (0,0)).2.toNat,h.2.1,h.2.2⟩] else jl code d k
theorem jl_no{code:List (Int×Int)}{d:List Int}{k:Nat}(h:¬isJ code d k):jl code d (k+1)=jl code d k:=dif_neg (fun q=>h q.1)
theorem jl_yes{code:List (Int×Int)}{d:List Int}{k:Nat}(H:JOk code)(hk:k<code.length)(h:isJ code d k) :
  ∃x:Jp,x.at'=k/\x.op=code[k].1/\(x.a:Int)=code[k].2/\jl code d (k+1)=jl code d k++[x]:=by
 have h2:=H.2 k hk h.2;have hl:=H.1;have e:code.getD k (0,0)=code[k]:=by rw[List.getD_eq_getElem?_getD,List.getElem?_eq_getElem hk];rfl
 refine⟨⟨k,(code.getD k (0,0)).1,(code.getD k (0,0)).2.toNat,by omega,by omega⟩,rfl,by show (code.getD k (0,0)).1=_;rw[e],by show (((code.getD k (0,0)).2.toNat:Nat):Int)=_;rw[<-e];omega,dif_pos ⟨h,by omega,by omega⟩⟩
theorem jl_len(code:List (Int×Int))(d:List Int)(k:Nat):(jl code d k).length<=k:=by
 induction k with
 | zero=>simp[jl]
 | succ k ih=>
  unfold jl;split
  ·simp;omega
  ·omega
def encJ (x:Jp):Array Value:=#[.int .i64 (x.at':Int),.agg #[.int .i64 x.op,.int .i64 (x.a:Int)]]
theorem jumpOp_any(op:Int)(w:World):Calls Tryz.prog 207 #[.int .i64 op] w fun e w'=>e=.returned (.bool (decide (op=17\/op=18\/op=19)))/\w'=w:=by
 by_cases h1:op=17
 ·subst h1;go_enter Tryz.func207,Tryz.ntmps207
  go_wp2;go_ret
  exact⟨rfl,rfl⟩
 by_cases h2:op=18
 ·subst h2;go_enter Tryz.func207,Tryz.ntmps207
  go_wp2;go_ret
  exact⟨rfl,rfl⟩
 by_cases h3:op=19
 ·subst h3;go_enter Tryz.func207,Tryz.ntmps207
  go_wp2;go_ret
  exact⟨rfl,rfl⟩
 rw[decide_eq_false (by omega)];go_enter Tryz.func207,Tryz.ntmps207
 go_wp2;go_ret
 exact⟨rfl,rfl⟩
def Kq (n₀ Bh:Nat)(W W':World):Prop:=Below n₀ W W'/\∀o,W.heap[Bh]?=some o->W'.heap[Bh]?=some o
theorem Kq.trans{n₀ Bh:Nat}{A B C:World}(h:Kq n₀ Bh A B)(k:Kq n₀ Bh B C):Kq n₀ Bh A C:=⟨h.1.trans k.1,fun o ho=>k.2 o (h.2 o ho)⟩
theorem Kq.put{n₀ Bh:Nat}{w:World}(hn:n₀<=w.heap.size)(hB:Bh<w.heap.size)(W:World)(l:Nat)(o o':Obj)(hl:w.heap.size<=l)(h:W.heap[l]?=some o)(h1:o.isCells=false)(h2:o.isWalk=false):Kq n₀ Bh W (W.putObj l o'):=
 ⟨belowK_b hn W l o o' hl h h1 h2,fun x hx=>(World.putObj_heap_other (by omega)).trans hx⟩
theorem jumps1_in(n:Nat)(hn:2<=n)(l Bc Bh n₀ g cap cc:Nat)(ca:Option Addr)(code:List (Int×Int))(d:List Int)(HJ:JOk code)(hd:d.length=code.length)(J Jx:List Jp->World->Prop)
  (hY:∀pre x W,J pre W->pre.length<code.length->YieldAt Fence.wide (n-1) Tryz.prog l (encJ x) W fun e W'=>
   (e=.returned (.bool true)/\J (pre++[x]) W'/\Kq n₀ Bh W W')\/(e=.returned (.bool false)/\Jx (pre++[x]) W'))
  (W:World) (hJ:AbidesFrom W.heap.size J) (hBc:W.cell? ⟨Bc,0,none⟩=some (.slice ca code.length cc)) (hBh:W.heap[Bh]?=some (.cells #[.slice (some ⟨g,0,none⟩) code.length code.length] 148 (0,0)))
  (hcode:bi W 0 ca code)(hclt:∀b off,ca=some ⟨b,off,none⟩->b<n₀)(hH:Ht W g cap d)(hg:g<n₀)(hn₀:n₀<=W.heap.size)(h0:J [] W) :
  CallsIn Fence.wide n Tryz.prog 206 #[.func (.yield l) #[] #[],.pointer (some ⟨Bc,0,none⟩),.pointer (some ⟨Bh,0,none⟩)] W fun e W'=>(∃v,e=.returned v) /\
   ((∃ys,ys=jl code d code.length/\J ys W')\/(∃pre,True/\Jx pre W')):=by
 refine callsIn_of_wp Tryz.func206 rfl trivial ?_ rfl;simp only[Tryz.ntmps206,List.size_toArray,List.length_cons,List.length_nil,Nat.reduceAdd,Nat.reduceSub,Array.replicate_succ,Array.replicate_zero,List.push_toArray,List.append_toArray,List.nil_append,List.cons_append]
 gi_wp2
 gi_loopw [8] (fun i wr=>∃k:Nat,k<=code.length/\i=.int .i64 k/\J (jl code d k) wr/\Below n₀ W wr/\wr.heap[Bh]?=some (.cells #[.slice (some ⟨g,0,none⟩) code.length code.length] 148 (0,0)))
  (fun i _=>code.length-(intOf i).toNat)
 case atStart=>exact⟨0,Nat.zero_le _,rfl,h0,Below.refl _ _,hBh⟩
 case round=>
  obtain⟨k,hk,rfl,hJs,hnx,hB⟩:=hrel;by_cases hlt:k<code.length
  case neg=>
   obtain rfl:k=code.length:=by omega
   gi_wp2
   go_end0
   exact⟨⟨_,rfl⟩,.inl ⟨_,rfl,hJs⟩⟩
  have hkd:k<d.length:=by omega
  have hl120:=HJ.1;obtain⟨b,off,rfl,-,c1,c2⟩:=hcode k hlt;have hb:=hclt b off rfl;obtain⟨wx,hwx⟩:∃wx,wx=wr.alloc (.cells #[.int .i64 code[k].1,.int .i64 code[k].2] 153):=⟨_,rfl⟩;have hbx:Below wr.heap.size wr wx:=by rw[hwx];exact gM.alloc nL _
  have hnw:n₀<=wr.heap.size:=Nat.le_trans hn₀ hnx.size;have hJx0:J (jl code d k) wx:=by rw[hwx];exact hJ _ wr _ none hJs (World.grownBy_alloc wr _ none) (fun r e=>by cases e)
  have c1':=(hnx.cell (p:=⟨b,off+k*2,none⟩) hb).trans c1;have c2':=(hnx.cell (p:=⟨b,off+k*2+1,none⟩) hb).trans c2;have c3:=(hnx.cell (p:=⟨g,k,none⟩) hg).trans (hH.cell hkd);have HC3:Hid (wx.cell? ⟨g,k,none⟩=some (.int .i64 d[k])):=cell_later hbx c3;have HB3:Hid (wx.heap[Bh]?=some (.cells #[.slice (some ⟨g,0,none⟩) code.length code.length] 148 (0,0))):=ab hB hbx;have HX3:Hid (wx.heap[wr.heap.size]?=some (.cells #[.int .i64 code[k].1,.int .i64 code[k].2] 153 (0,0))):=by show _=_;rw[hwx];exact ah _ _ _
  have ed:d.getD k (-1)=d[k]:=by rw[List.getD_eq_getElem?_getD,List.getElem?_eq_getElem hkd];rfl
  have ec:code.getD k (0,0)=code[k]:=by rw[List.getD_eq_getElem?_getD,List.getElem?_eq_getElem hlt];rfl
  clear c1 c2 c3;have c3:=cell_later (wx:=wr.alloc (.cells #[.int .i64 code[k].1,.int .i64 code[k].2] 153)) (gM.alloc nL _) ((hnx.cell (p:=⟨g,k,none⟩) hg).trans (hH.cell hkd));have c4:=aa (al hB (.cells #[.int .i64 code[k].1,.int .i64 code[k].2] 153));have HJs:Hid (J (jl code d k) wx):=hJx0;have HB0:Hid (Below n₀ W wx):=hnx.trans (hbx.mono hnw);have HED:Hid (isJ code d k↔d[k]≠-1/\(code[k].1=17\/code[k].1=18\/code[k].1=19)):=by show _↔_;unfold isJ;rw[ed,ec]
  clear ed ec hJx0 hJs;by_cases hz:d[k]=-1
  ·have HNo:Hid (jl code d (k+1)=jl code d k):=jl_no (fun h=>(HED.out.1 h).1 hz);have c3':=c3;rw[hz] at c3';clear c3;gi_wp2
   refine⟨trivial,?_⟩;gi_wp2
   refine⟨fun _ h=>(by cases h),?_⟩;gi_wp2
   rw[<-hwx];go_roundw
   case rel=>exact⟨k+1,by omega,by go_num,by rw[HNo.out];exact HJs.out,HB0.out,HB3.out⟩
   case measure=>simp[intOf];omega
  have hz':(d[k] != -1)=true:=by simpa using hz
  by_cases hj:code[k].1=17\/code[k].1=18\/code[k].1=19
  case neg=>
   have HNo:Hid (jl code d (k+1)=jl code d k):=jl_no (fun h=>hj (HED.out.1 h).2);gi_wp2
   refine⟨trivial,fun _=>by omega,?_⟩;refine (callsIn_wide.2 (jumpOp_any _ _)).mono ?_;rintro e w1 ⟨rfl,rfl⟩;rw[decide_eq_false hj];gi_wp2
   refine⟨fun _ h=>(by cases h),?_⟩;gi_wp2
   rw[<-hwx];go_roundw
   case rel=>exact⟨k+1,by omega,by go_num,by rw[HNo.out];exact HJs.out,HB0.out,HB3.out⟩
   case measure=>simp[intOf];omega
  obtain⟨x,hx1,hx2,hx3,hx4⟩:=jl_yes HJ hlt (HED.out.2 ⟨hz,hj⟩);have HX4:Hid (jl code d (k+1)=jl code d k++[x]):=hx4;clear hx4;obtain⟨fn,tmps,assign,body,hy,hR⟩:=hY _ x wx HJs.out (Nat.lt_of_le_of_lt (jl_len _ _ _) hlt);simp only[encJ,hx1,hx2,hx3] at hy
  rw[hwx] at hy;have x5:=aa (ah wr #[.int .i64 code[k].1,.int .i64 code[k].2] 153);gi_wp2
  refine⟨trivial,fun _=>by omega,?_⟩;refine (callsIn_wide.2 (jumpOp_any _ _)).mono ?_;rintro e w1 ⟨rfl,rfl⟩;rw[decide_eq_true hj];gi_wp2
  refine⟨fun _=>by omega,?_⟩;rw[<-hwx];refine hR.mono ?_;rintro e W3 (⟨rfl,hJ3,hk3⟩ | ⟨rfl,hJx3⟩)
  ·gi_wp2
   go_roundw
   case rel=>exact⟨k+1,by omega,by go_num,by rw[HX4.out];exact hJ3,HB0.out.trans hk3.1,hk3.2 _ HB3.out⟩
   case measure=>simp[intOf];omega
  ·gi_wp2
   refine bodyPost_ret (results_none rfl _ _ _) rfl ?_;exact⟨⟨_,rfl⟩,.inr ⟨_,trivial,hJx3⟩⟩
theorem jumps_any(a b:Option Addr)(n c n2 c2:Nat)(w:World) :
  Calls Tryz.prog 185 #[.slice a n c,.slice b n2 c2] w fun e w'=>e=.returned (.func (.func 206) #[] #[.pointer (some ⟨w.heap.size,0,none⟩),.pointer (some ⟨w.heap.size+1,0,none⟩)])/\w'=(w.alloc (.cells #[.slice a n c] 105)).alloc (.cells #[.slice b n2 c2] 148):=by
 go_enter Tryz.func185,Tryz.ntmps185
 go_wp2;go_ret
 exact⟨rfl,rfl⟩
theorem jumps_stops(n:Nat)(hn:2<=n)(Bc Bh n₀ g cap cc:Nat)(ca:Option Addr)(code:List (Int×Int))(d:List Int)(HJ:JOk code)(hd:d.length=code.length)(w:World)
  (hBc:w.cell? ⟨Bc,0,none⟩=some (.slice ca code.length cc)) (hBcl:Bc<w.heap.size) (hBh:w.heap[Bh]?=some (.cells #[.slice (some ⟨g,0,none⟩) code.length code.length] 148 (0,0)))
  (hcode:bi w 0 ca code)(hclt:∀b off,ca=some ⟨b,off,none⟩->b<n₀)(hH:Ht w g cap d)(hg:g<n₀)(hn₀:n₀<=w.heap.size) :
  SeqStopsK Fence.wide n Tryz.prog 206 #[.pointer (some ⟨Bc,0,none⟩),.pointer (some ⟨Bh,0,none⟩)] encJ (Kq n₀ Bh) (fun ys=>ys=jl code d code.length) (fun _=>True) code.length w:=fun l J Jx W hW hJ _ hY h0=>
 jumps1_in n hn l Bc Bh n₀ g cap cc ca code d HJ hd J Jx hY W hJ ((hW.cell (p:=⟨Bc,0,none⟩) hBcl).trans hBc) (ab hBh hW) (hcode.mono hW) hclt (hH.mono hW) hg (Nat.le_trans hn₀ hW.size) h0
attribute [local go_sem] Oper.semAt_some
def cY (st:(Nat×Nat)×(Nat×Nat))(x:Jp):(Nat×Nat)×(Nat×Nat):=
 (if x.op=17 then bw st.1 x.a else bw (bw st.1 x.a) (x.at'+1),if x.a<=x.at' then bw st.2 x.a else st.2)
def flowB (xs:List Jp):(Nat×Nat)×(Nat×Nat):=xs.foldl cY ((1,0),(0,0))
theorem flowB_snoc(xs:List Jp)(x:Jp):flowB (xs++[x])=cY (flowB xs) x:=by simp[flowB]
def fok (st:(Nat×Nat)×(Nat×Nat)):Prop:=bok st.1/\bok st.2
theorem fstep_ok{st:(Nat×Nat)×(Nat×Nat)}(h:fok st)(x:Jp):fok (cY st x):=by
 have h1:=fQ h.1 x.h2;refine⟨?_,?_⟩
 ·show bok (if _ then _ else _)
  split
  ·exact h1
  ·exact fQ h1 x.h1
 ·show bok (if _ then _ else _)
  split
  ·exact fQ h.2 x.h2
  ·exact h.2
theorem fold_ok(xs:List Jp){st:(Nat×Nat)×(Nat×Nat)}(h:fok st):fok (xs.foldl cY st):=by
 induction xs generalizing st with
 | nil=>exact h
 | cons x xs ih=>exact ih (fstep_ok h x)
theorem flowB_ok(xs:List Jp):fok (flowB xs):=fold_ok xs ⟨⟨by decide,by decide⟩,by decide,by decide⟩
def eM (st:(Nat×Nat)×(Nat×Nat)):Array Value:=#[.int .u64 (st.1.1:Int),.int .u64 (st.1.2:Int),.int .u64 (st.2.1:Int),.int .u64 (st.2.2:Int)]
def fv (st:(Nat×Nat)×(Nat×Nat)):Value:=.agg (eM st)
theorem eE{β:Type}(B:Nat)(t:TypeId)(f:β->Array Value):Own (fun s W=>W.heap[B]?=some (.cells (f s) t (0,0))):=fun s X Y row hs hg hrow=>by
 refine (hg.block B (Array.getElem?_eq_some_iff.1 hs).1 (fun e'=>?_)).trans hs;obtain⟨o,ho,hc⟩:=hrow B e'.symm;rw[hs] at ho;cases ho;cases hc
theorem with_zero(w:World):Calls Tryz.prog 184 #[.agg #[.int .u64 0,.int .u64 0],.int .i64 0] w fun e w'=>e=.returned (.agg #[.int .u64 1,.int .u64 0])/\Below w.heap.size w w':=
 with_any (0,0) 0 w ⟨by decide,by decide⟩ (by decide)
structure FlS (w W:World)(n₀ B0 F R Bh Bx:Nat)(op a:Int)(W':World)(st:(Nat×Nat)×(Nat×Nat)):Prop where
 fl:W'.heap[F]?=some (.cells (eM st) 255 (0,0))
 res:W'.heap[R]?=some (.cells #[.int .u64 0,.int .u64 0,.int .u64 0,.int .u64 0] 255 (0,0))
 x:W'.heap[Bx]?=some (.cells #[.int .i64 op,.int .i64 a] 153 (0,0))
 kq:Kq n₀ Bh W W'
 kf:KeepsFrom B0 W W'
 below:Below n₀ w W'
theorem FlS.call{w W W' W'':World}{n₀ B0 F R Bh Bx:Nat}{op a:Int}{st:(Nat×Nat)×(Nat×Nat)}(h:FlS w W n₀ B0 F R Bh Bx op a W' st)(hn:n₀<=F)(hb:Below W'.heap.size W' W''):FlS w W n₀ B0 F R Bh Bx op a W'' st:=by
 have hm:n₀<=W'.heap.size:=Nat.le_trans hn (Nat.le_of_lt (aq h.fl));exact⟨ab h.fl hb,ab h.res hb,ab h.x hb,h.kq.trans ⟨hb.mono hm,fun _ ho=>ab ho hb⟩,h.kf.trans ⟨hb.size,fun _ _ _ hk _=>ab hk hb⟩,h.below.trans (hb.mono hm)⟩
theorem fI{n₀ Bh F i:Nat}{W:World}{v:Value}(hn:n₀<=F)(hne:Bh≠F):Kq n₀ Bh W (W.setCell ⟨F,i,none⟩ v):=
 ⟨gM.setCell (p:=⟨F,i,none⟩) hn _,fun _ ho=>(Below.heap_setCell _ _ _ _ hne).trans ho⟩
theorem FlS.lo{w W W':World}{n₀ B0 F R Bh Bx:Nat}{op a:Int}{st:(Nat×Nat)×(Nat×Nat)}(h:FlS w W n₀ B0 F R Bh Bx op a W' st)(hn:n₀<=F)(h1:R≠F)(h2:Bh≠F)(h3:Bx≠F)(x y:Nat) :
  FlS w W n₀ B0 F R Bh Bx op a ((W'.setCell ⟨F,0,none⟩ (.int .u64 (x:Int))).setCell ⟨F,1,none⟩ (.int .u64 (y:Int))) ((x,y),st.2):=by
 refine⟨?_,?_,?_,(h.kq.trans (fI hn h2)).trans (fI hn h2),(h.kf.trans ((KeepsOthers.setCell _ _ _).from _)).trans ((KeepsOthers.setCell _ _ _).from _),(h.below.setCell (p:=⟨F,0,none⟩) hn _).setCell (p:=⟨F,1,none⟩) hn _⟩
 ·have:=ao (i:=1) (ao (i:=0) h.fl (.int .u64 (x:Int))) (.int .u64 (y:Int));simpa[eM] using this
 ·rw[Below.heap_setCell _ _ _ _ h1,Below.heap_setCell _ _ _ _ h1];exact h.res
 ·rw[Below.heap_setCell _ _ _ _ h3,Below.heap_setCell _ _ _ _ h3];exact h.x
theorem FlS.hi{w W W':World}{n₀ B0 F R Bh Bx:Nat}{op a:Int}{st:(Nat×Nat)×(Nat×Nat)}(h:FlS w W n₀ B0 F R Bh Bx op a W' st)(hn:n₀<=F)(h1:R≠F)(h2:Bh≠F)(h3:Bx≠F)(x y:Nat) :
  FlS w W n₀ B0 F R Bh Bx op a ((W'.setCell ⟨F,2,none⟩ (.int .u64 (x:Int))).setCell ⟨F,3,none⟩ (.int .u64 (y:Int))) (st.1,(x,y)):=by
 refine⟨?_,?_,?_,(h.kq.trans (fI hn h2)).trans (fI hn h2),(h.kf.trans ((KeepsOthers.setCell _ _ _).from _)).trans ((KeepsOthers.setCell _ _ _).from _),(h.below.setCell (p:=⟨F,2,none⟩) hn _).setCell (p:=⟨F,3,none⟩) hn _⟩
 ·have:=ao (i:=3) (ao (i:=2) h.fl (.int .u64 (x:Int))) (.int .u64 (y:Int));simpa[eM] using this
 ·rw[Below.heap_setCell _ _ _ _ h1,Below.heap_setCell _ _ _ _ h1];exact h.res
 ·rw[Below.heap_setCell _ _ _ _ h3,Below.heap_setCell _ _ _ _ h3];exact h.x
theorem eG(x y k:Nat)(w:World)(hs:bok (x,y))(hk:k<128) :
  Calls Tryz.prog 184 #[.agg #[.int .u64 (x:Int),.int .u64 (y:Int)],.int .i64 (k:Int)] w fun e w'=>∃x' y',bw (x,y) k=(x',y')/\e=.returned (.agg #[.int .u64 (x':Int),.int .u64 (y':Int)])/\Below w.heap.size w w':=
 (with_any (x,y) k w hs hk).mono fun _ _ ⟨h1,h2⟩=>⟨_,_,rfl,h1,h2⟩
theorem flowOf_any(g cap cc:Nat)(ca:Option Addr)(code:List (Int×Int))(d:List Int)(w:World)(HJ:JOk code)(hd:d.length=code.length)(hcode:bi w 0 ca code)(hH:Ht w g cap d)(h1c:0<code.length) :
  Calls Tryz.prog 158 #[.slice ca code.length cc,.slice (some ⟨g,0,none⟩) code.length code.length] w fun e w'=>e=.returned (fv (flowB (jl code d code.length)))/\Below w.heap.size w w':=by
 refine (callsIn_wide (n:=4)).1 ?_;refine callsIn_of_wp_marks Tryz.func158 rfl trivial ?_ rfl;simp only[Tryz.ntmps158,List.size_toArray,List.length_cons,List.length_nil,Nat.reduceAdd,Nat.reduceSub,Array.replicate_succ,Array.replicate_zero,List.push_toArray,List.append_toArray,List.nil_append,List.cons_append]
 gi_wp2
 refine⟨trivial,?_⟩;refine (callsIn_wide.2 (with_zero _)).mono ?_;rintro e w1 ⟨rfl,hb1⟩;gi_wp2
 refine⟨trivial,?_⟩;refine (callsIn_wide.2 (jumps_any _ _ _ _ _ _ _)).mono ?_;rintro e w2 ⟨rfl,rfl⟩;gi_wp2
 have hR1:=ab (ah w #[.int .u64 0,.int .u64 0,.int .u64 0,.int .u64 0] 255) hb1;have hz1:w.heap.size<w1.heap.size:=aq hR1;have hB1:Below w.heap.size w w1:=(gM.alloc nL _).trans (hb1.mono (by simp));obtain⟨W0,hW0⟩:∃W0,((w1.alloc (.cells #[.int .u64 1,.int .u64 0,.int .u64 0,.int .u64 0] 255)).alloc (.cells #[.slice ca code.length cc] 105)).alloc (.cells #[.slice (some ⟨g,0,none⟩) code.length code.length] 148)=W0:=⟨_,rfl⟩;have hsz:W0.heap.size=w1.heap.size+3:=by rw[<-hW0];simp
 have hB10:Below w1.heap.size w1 W0:=by rw[<-hW0];exact ((gM.alloc nL _).alloc (by simp) _).alloc (by simp;omega) _
 have hB0:Below w.heap.size w W0:=hB1.trans (hB10.mono hB1.size);have hR0:=ab hR1 hB10;have hF0:W0.heap[w1.heap.size]?=some (.cells (eM (flowB [])) 255 (0,0)):=by rw[<-hW0];exact al (al (ah _ _ _) _) _
 have hC0:W0.heap[w1.heap.size+1]?=some (.cells #[.slice ca code.length cc] 105 (0,0)):=by
  have:=al (ah (w1.alloc (.cells #[.int .u64 1,.int .u64 0,.int .u64 0,.int .u64 0] 255)) #[.slice ca code.length cc] 105) (.cells #[.slice (some ⟨g,0,none⟩) code.length code.length] 148);rw[hW0,World.size_alloc] at this;exact this
 have hH0:W0.heap[w1.heap.size+1+1]?=some (.cells #[.slice (some ⟨g,0,none⟩) code.length code.length] 148 (0,0)):=by
  have:=ah ((w1.alloc (.cells #[.int .u64 1,.int .u64 0,.int .u64 0,.int .u64 0] 255)).alloc (.cells #[.slice ca code.length cc] 105)) #[.slice (some ⟨g,0,none⟩) code.length code.length] 148;rw[hW0,World.size_alloc,World.size_alloc] at this;exact this
 rw[hW0];clear hW0 hb1 hR1;have hclt:∀b off,ca=some ⟨b,off,none⟩->b<w.heap.size:=fun b off e=>by
  obtain⟨b',off',e',-,hc,-⟩:=hcode 0 h1c;rw[e] at e';cases e';exact World.block_lt_of_cell? w _ hc
 refine wpIn_rangeFunc_ownH (α:=Jp) rfl (by omega) (gf:=206) (lb:=#[.pointer (some ⟨w1.heap.size+1,0,none⟩),.pointer (some ⟨w1.heap.size+1+1,0,none⟩)]) rfl trivial (enters_of Tryz.func206 (by kernel_rfl) rfl)
  (jumps_stops 3 (by omega) (w1.heap.size+1) (w1.heap.size+1+1) w.heap.size g cap cc ca code d HJ hd W0 ((aa hC0 0).trans rfl) (by omega) hH0 (hcode.mono hB0) hclt (hH.mono hB0) hH.lt (by omega)) Kq.trans (Kq.put (by omega) (by omega)) gM (fun _=>rfl)
  (fun pre W=>(W.heap[w1.heap.size]?=some (.cells (eM (flowB pre)) 255 (0,0))/\W.heap[w.heap.size]?=some (.cells #[.int .u64 0,.int .u64 0,.int .u64 0,.int .u64 0] 255 (0,0)))/\Below w.heap.size w W)
  (fun _ _ _=>False)
  (OwnFrom.and (OwnFrom.and (Own.from (eE _ _ _) _) (Own.from (eE _ _ (fun _=>#[.int .u64 0,.int .u64 0,.int .u64 0,.int .u64 0])) _)) (ownFrom_below nL (by omega)))
  (fun _ _ _ _ _ hs _ _=>hs)
  ⟨⟨hF0,hR0⟩,hB0⟩
  (fun x a' W=>∃Bx,w1.heap.size<Bx/\W.heap[Bx]?=some (.cells #[.int .i64 x.op,.int .i64 (x.a:Int)] 153 (0,0))/\a'={ tmps:=#[.slice ca code.length cc,.slice (some ⟨g,0,none⟩) code.length code.length,undef,undef,.pointer (some ⟨w.heap.size,0,none⟩),.pointer (some ⟨w1.heap.size,0,none⟩),.int .i64 (x.at':Int),.pointer (some ⟨Bx,0,none⟩),.agg #[.int .u64 0,.int .u64 0],.agg #[.int .u64 1,.int .u64 0],.agg #[.int .u64 1,.int .u64 0,.int .u64 0,.int .u64 0],.slice ca code.length cc,.slice (some ⟨g,0,none⟩) code.length code.length,.func (.func 206) #[] #[.pointer (some ⟨w1.heap.size+1,0,none⟩),.pointer (some ⟨w1.heap.size+1+1,0,none⟩)],.int .i64 (x.at':Int),.agg #[.int .i64 x.op,.int .i64 (x.a:Int)],undef,undef,undef,undef,undef,undef,undef,undef,undef,undef,undef,undef,undef,undef,undef,undef,undef,undef,undef,undef,undef,undef,undef,undef,undef,undef],defers:=[] })
  (fun x a' _ X Y row hs hg hr=>by obtain⟨Bx,h1,h2,h3⟩:=hs;exact⟨Bx,h1,eE Bx 153 (fun (_:Unit)=>#[.int .i64 x.op,.int .i64 (x.a:Int)]) () X Y row h2 hg (fun r e=>(hr r e).2),h3⟩)
  ?assign ?body ?done ?stop
 case assign=>
  rintro l pre x W K ⟨⟨hF,hR⟩,hB⟩ hK;simp only[encJ]
  gi_wp2
  exact hK _ _ ((KeepsOthers.alloc _ _).from _) ⟨(Below.refl _ W).alloc hB.size _,fun _ ho=>al ho _⟩ ⟨⟨al hF _,al hR _⟩,hB.alloc hB.size _⟩ ⟨W.heap.size,aq hF,ah W _ _,rfl⟩
 case body=>
  rintro l pre x a' W hl - ⟨⟨hF,hR⟩,hB⟩ ⟨Bx,hBx,hX,rfl⟩ -;clear hl hF0 hR0 hC0 hH0 hB0 hB10 hB1;obtain⟨⟨⟨a,b⟩,⟨c,e⟩⟩,hst⟩:∃st,st=flowB pre:=⟨_,rfl⟩;have hok:=flowB_ok pre;rw[<-hst] at hF hok;have HST:Hid (flowB (pre++[x])=cY ((a,b),(c,e)) x):=by show _=_;rw[flowB_snoc,<-hst]
  clear hst;have S0:FlS w W w.heap.size W0.heap.size w1.heap.size w.heap.size (w1.heap.size+1+1) Bx x.op (x.a:Int) W ((a,b),(c,e)):=⟨hF,hR,hX,⟨Below.refl _ _,fun _ h=>h⟩,KeepsFrom.refl _ _,hB⟩;have n1:w.heap.size<=w1.heap.size:=Nat.le_of_lt hz1;have n2:w.heap.size≠w1.heap.size:=Nat.ne_of_lt hz1;have n3:w1.heap.size+1+1≠w1.heap.size:=by omega
  have n4:Bx≠w1.heap.size:=by omega
  have HN:Hid (w.heap.size<=w1.heap.size/\w.heap.size≠w1.heap.size/\w1.heap.size+1+1≠w1.heap.size/\Bx≠w1.heap.size):=⟨n1,n2,n3,n4⟩;clear n1 n2 n3 n4 hF hR hX hB hBx hz1 hsz;have hx1:=x.h1;have hx2:=x.h2;have HX12:Hid (x.at'+1<128/\x.a<128):=⟨hx1,hx2⟩;clear hx1 hx2;have c0:=aa (show W.heap[w1.heap.size]?=some (.cells #[.int .u64 (a:Int),.int .u64 (b:Int),.int .u64 (c:Int),.int .u64 (e:Int)] 255 (0,0)) from S0.fl)
  have x0:=aa S0.x;gi_wp2
  refine⟨trivial,?_⟩;refine (CallsIn.inRound l (callsIn_wide.2 (eG a b x.a _ hok.1 HX12.out.2))).mono ?_;rintro e2 w2 ⟨a2,b2,hw2,rfl,kb2⟩;have HW2:Hid (bw (a,b) x.a=(a2,b2)):=hw2;have ok2:bok (a2,b2):=by rw[<-hw2];exact fQ hok.1 HX12.out.2
  have S1:=S0.call HN.out.1 kb2;have S2:=S1.lo HN.out.1 HN.out.2.1 HN.out.2.2.1 HN.out.2.2.2 a2 b2;clear c0 x0 hw2 kb2 S0;have c1:=aa (show w2.heap[w1.heap.size]?=some (.cells #[.int .u64 (a:Int),.int .u64 (b:Int),.int .u64 (c:Int),.int .u64 (e:Int)] 255 (0,0)) from S1.fl)
  have f1:=am S1.fl;have x2:=aa S2.x;have c2:=aa (show ((w2.setCell ⟨w1.heap.size,0,none⟩ (.int .u64 (a2:Int))).setCell ⟨w1.heap.size,1,none⟩ (.int .u64 (b2:Int))).heap[w1.heap.size]?=some (.cells #[.int .u64 (a2:Int),.int .u64 (b2:Int),.int .u64 (c:Int),.int .u64 (e:Int)] 255 (0,0)) from S2.fl)
  by_cases hop:x.op=17
  ·have HOP:Hid (x.op=17):=hop;by_cases hle:x.a<=x.at'
   ·have HLE:Hid (x.a<=x.at'):=hle;gi_wp2
    refine⟨trivial,?_⟩;refine (CallsIn.inRound l (callsIn_wide.2 (eG c e x.a _ hok.2 HX12.out.2))).mono ?_;rintro e9 w9 ⟨c9,d9,hw9,rfl,kb9⟩;have HW9:Hid (bw (c,e) x.a=(c9,d9)):=hw9;have S8:=S2.call HN.out.1 kb9;have S9:=S8.hi HN.out.1 HN.out.2.1 HN.out.2.2.1 HN.out.2.2.2 c9 d9;have c8:=aa (show w9.heap[w1.heap.size]?=some (.cells #[.int .u64 (a2:Int),.int .u64 (b2:Int),.int .u64 (c:Int),.int .u64 (e:Int)] 255 (0,0)) from S8.fl)
    have f8:=am S8.fl;clear hw9 kb9;gi_wp2
    refine⟨S9.kf,S9.kq,⟨?_,S9.res⟩,S9.below⟩;rw[HST.out];have hfl:=S9.fl;have e9:cY ((a,b),(c,e)) x=((a2,b2),(c9,d9)):=by
     unfold cY;rw[if_pos HLE.out,HW9.out,HW2.out,if_pos HOP.out]
    rw[e9];exact hfl
   ·have HLE:Hid (¬x.a<=x.at'):=hle;gi_wp2
    refine⟨S2.kf,S2.kq,⟨?_,S2.res⟩,S2.below⟩;rw[HST.out];have hfl:=S2.fl;have e9:cY ((a,b),(c,e)) x=((a2,b2),(c,e)):=by
     unfold cY;rw[if_neg HLE.out,HW2.out,if_pos HOP.out]
    rw[e9];exact hfl
  have HOP:Hid (¬x.op=17):=hop;have hop':(x.op != 17)=true:=by simpa using hop
  have hadd:IntKind.i64.wrap ((x.at':Int)+1)=(x.at':Int)+1:=by rw[IntKind.wrap_i64];have:=HX12.out.1;omega
  gi_wp2
  refine⟨trivial,?_⟩;refine (CallsIn.inRound l (callsIn_wide.2 (eG a2 b2 (x.at'+1) _ ok2 HX12.out.1))).mono ?_;rintro e4 w4 ⟨a4,b4,hw4,rfl,kb4⟩;have HW4:Hid (bw (a2,b2) (x.at'+1)=(a4,b4)):=hw4;have S3:=S2.call HN.out.1 kb4;have S4:=S3.lo HN.out.1 HN.out.2.1 HN.out.2.2.1 HN.out.2.2.2 a4 b4;clear c1 f1 x2 c2 hw4 kb4 S1 S2;have c1:=aa (show w4.heap[w1.heap.size]?=some (.cells #[.int .u64 (a2:Int),.int .u64 (b2:Int),.int .u64 (c:Int),.int .u64 (e:Int)] 255 (0,0)) from S3.fl)
  have f1:=am S3.fl;have x2:=aa S4.x;have c2:=aa (show ((w4.setCell ⟨w1.heap.size,0,none⟩ (.int .u64 (a4:Int))).setCell ⟨w1.heap.size,1,none⟩ (.int .u64 (b4:Int))).heap[w1.heap.size]?=some (.cells #[.int .u64 (a4:Int),.int .u64 (b4:Int),.int .u64 (c:Int),.int .u64 (e:Int)] 255 (0,0)) from S4.fl)
  by_cases hle:x.a<=x.at'
  ·have HLE:Hid (x.a<=x.at'):=hle;gi_wp2
   refine⟨trivial,?_⟩;refine (CallsIn.inRound l (callsIn_wide.2 (eG c e x.a _ hok.2 HX12.out.2))).mono ?_;rintro e9 w9 ⟨c9,d9,hw9,rfl,kb9⟩;have HW9:Hid (bw (c,e) x.a=(c9,d9)):=hw9;have S8:=S4.call HN.out.1 kb9;have S9:=S8.hi HN.out.1 HN.out.2.1 HN.out.2.2.1 HN.out.2.2.2 c9 d9;have c8:=aa (show w9.heap[w1.heap.size]?=some (.cells #[.int .u64 (a4:Int),.int .u64 (b4:Int),.int .u64 (c:Int),.int .u64 (e:Int)] 255 (0,0)) from S8.fl)
   have f8:=am S8.fl;clear hw9 kb9;gi_wp2
   refine⟨S9.kf,S9.kq,⟨?_,S9.res⟩,S9.below⟩;rw[HST.out];have hfl:=S9.fl;have e9:cY ((a,b),(c,e)) x=((a4,b4),(c9,d9)):=by
    unfold cY;rw[if_pos HLE.out,HW9.out,HW2.out,if_neg HOP.out,HW4.out]
   rw[e9];exact hfl
  ·have HLE:Hid (¬x.a<=x.at'):=hle;gi_wp2
   refine⟨S4.kf,S4.kq,⟨?_,S4.res⟩,S4.below⟩;rw[HST.out];have hfl:=S4.fl;have e9:cY ((a,b),(c,e)) x=((a4,b4),(c,e)):=by
    unfold cY;rw[if_neg HLE.out,HW2.out,if_neg HOP.out,HW4.out]
   rw[e9];exact hfl
 case done=>
  rintro D ys W hD rfl ⟨⟨hF,hR⟩,hB⟩ hK;clear hF0 hR0 hC0 hH0 hB0 hB10 hB1;obtain⟨⟨⟨a,b⟩,⟨c,e⟩⟩,hst⟩:∃st,st=flowB (jl code d code.length):=⟨_,rfl⟩;rw[<-hst] at hF;have HE:Hid (((a,b),(c,e))=flowB (jl code d code.length)):=hst;clear hst;have c0:=aa (show W.heap[w1.heap.size]?=some (.cells #[.int .u64 (a:Int),.int .u64 (b:Int),.int .u64 (c:Int),.int .u64 (e:Int)] 255 (0,0)) from hF)
  have r0:=aa hR;have r1:=am hR;have hDn:D≠w.heap.size:=by omega
  have hRD:∀(X:World),X.heap[D]?=some (.deferred (some []))->∀i v,(X.setCell ⟨w.heap.size,i,none⟩ v).heap[D]?=some (.deferred (some [])):=fun X h i v=>by rw[Below.heap_setCell _ _ _ _ hDn];exact h
  have HK4:=hRD _ (hRD _ (hRD _ (hRD _ hK 0 (.int .u64 (a:Int))) 1 (.int .u64 (b:Int))) 2 (.int .u64 (c:Int))) 3 (.int .u64 (e:Int));have HR4:=ao (i:=3) (ao (i:=2) (ao (i:=1) (ao (i:=0) hR (.int .u64 (a:Int))) (.int .u64 (b:Int))) (.int .u64 (c:Int))) (.int .u64 (e:Int));have hB4:=(((hB.setCell (p:=⟨w.heap.size,0,none⟩) nL (.int .u64 (a:Int))).setCell (p:=⟨w.heap.size,1,none⟩) nL (.int .u64 (b:Int))).setCell (p:=⟨w.heap.size,2,none⟩) nL (.int .u64 (c:Int))).setCell (p:=⟨w.heap.size,3,none⟩) nL (.int .u64 (e:Int));simp at HR4
  have hwD:w.heap.size<=D:=by omega
  clear hRD hD;gi_wp2
  generalize ((((W.setCell ⟨w.heap.size,0,none⟩ (.int .u64 (a:Int))).setCell ⟨w.heap.size,1,none⟩ (.int .u64 (b:Int))).setCell ⟨w.heap.size,2,none⟩ (.int .u64 (c:Int))).setCell ⟨w.heap.size,3,none⟩ (.int .u64 (e:Int)))=W4 at HK4 HR4 hB4 ⊢
  have rr:=aa ((World.putObj_heap_other (o:=.deferred none) (w:=W4) (Ne.symm hDn)).trans HR4);refine⟨by simp,.inl ⟨_,_,rfl,run_takeDeferred HK4,?_⟩⟩;refine⟨.agg #[.int .u64 (a:Int),.int .u64 (b:Int),.int .u64 (c:Int),.int .u64 (e:Int)],by simp[results,Tryz.results158,go_sem,rr],?_,hB4.trans (belowK_b (w:=w) nL W4 D _ _ hwD HK4 rfl rfl)⟩;rw[<-HE.out];rfl
 case stop=>
  rintro D c pre W _ _ h _;exact h.elim
end Go.Proofs.YtdlkbbgmjilccaaGreatDoor
namespace Go.Proofs.YtdlkbbgmjilccaaGreatDoor
open Go.RowKit
def cf {α:Type}(m:α->Nat)(l:List α):Nat:=(l.map m).sum
def LM {α:Type}(m:α->Nat)(l:List α):Nat:=l.length+cf m l
theorem cg{α:Type}(m:α->Nat)(l:List α)(k:Nat)(h:k<l.length):cf m (l.take (k+1))=cf m (l.take k)+m l[k]:=by
 unfold cf;rw[List.take_succ_eq_append_getElem h,List.map_append,List.sum_append];simp only[List.map_cons,List.map_nil,List.sum_cons,List.sum_nil,Nat.add_zero]
theorem cF{α:Type}(m:α->Nat)(l:List α):cf m (l.take l.length)=cf m l:=by rw[List.take_length]
def mSr (_:Sr):Nat:=0
def mFo (_:Fo):Nat:=0
def mEF (x:EF):Nat:=LM mSr x.locals+LM mSr x.stack
def mER (x:ER):Nat:=LM mSr x.fields
def mEx (x:Ex):Nat:=LM mEF x.frames+LM mER x.recs
def ft (d:aH):Nat:=LM mFo d.ops+LM mEx d.exits
theorem szSrc_m(x:Sr)(left:Int)(w:World)(h0:0<=left)(h1:left<=1048576)(hx:fm x) :
  Calls Tryz.prog 227 #[.agg #[.int .i64 x.k,.int .i64 x.n,.int .i64 x.v.k,.int .i64 x.v.n,.string x.v.s],.int .i64 left] w fun e w'=>∃r:Int,e=.returned (.int .i64 r)/\r<=left/\(0<=r->bC x/\(mSr x:Int)+r<=left)/\Below w.heap.size w w':=by
 have hbA:Below w.heap.size w (w.alloc (.cells #[.int .i64 x.k,.int .i64 x.n,.int .i64 x.v.k,.int .i64 x.v.n,.string x.v.s] 357)):=gM.alloc nL _;unfold fm at hx;go_enter Tryz.func227,Tryz.ntmps227
 go_wp2_with fail
 refine (cW _ _ _ _ _ h0 h1 hx).mono ?_;rintro e w1 ⟨rfl,hb⟩;have hB:=hbA.trans (hb.mono hbA.size);by_cases hr:left<(x.v.s.size:Int)
 ·rw[if_pos hr];go_wp2;go_ret
  exact⟨-1,rfl,by omega,by omega,hB⟩
 ·rw[if_neg hr];have hr0:¬left-(x.v.s.size:Int)<0:=by omega
  go_wp2;go_ret
  exact⟨_,rfl,by omega,fun _=>⟨by show _<=_;omega,by show ((0:Nat):Int)+_<=_;omega⟩,hB⟩
theorem ff(a:Option Addr)(xs:List Sr)(cap:Nat)(left:Int)(w:World)(h0:0<=left)(h1:left<=1048576)(hx:LMax fm xs)(hm:bq w 0 a xs) :
  Calls Tryz.prog 218 #[.slice a xs.length cap,.int .i64 left] w fun e w'=>∃r:Int,e=.returned (.int .i64 r)/\r<=left/\(0<=r->aU bC xs/\(LM mSr xs:Int)+r<=left)/\Below w.heap.size w w':=by
 obtain⟨hn,hc⟩:=hx;unfold maxLen at hn;by_cases h:left<xs.length
 ·go_enter Tryz.func218,Tryz.ntmps218
  go_wp2;go_ret
  exact⟨-1,rfl,by omega,by omega,Below.refl _ _⟩
 ·go_enter Tryz.func218,Tryz.ntmps218
  go_wp2;go_loopw [1,5] (fun l i wr=>∃(k:Nat) (q:Int),k<=xs.length/\i=.int .i64 k/\l=.int .i64 q/\0<=q/\q<=left-xs.length/\Hid ((cf mSr (xs.take k):Int)+q<=left-xs.length)/\Hid (∀f∈xs.take k,bC f)/\Below w.heap.size w wr) (fun _ i _=>xs.length-(intOf i).toNat)
  case atStart=>exact⟨0,_,by omega,rfl,rfl,by omega,by omega,by show ((0:Nat):Int)+_<=_;omega,by intro f hf;simp at hf,Below.refl _ _⟩
  case round=>
   obtain⟨k,q,hk,rfl,rfl,hq0,hq1,HQ,hall,hb⟩:=hrel;by_cases hlt:k<xs.length
   ·obtain⟨b,off,rfl,-,d0,d1,d2,d3,d4⟩:=hm k hlt;have e0:=cell_later hb d0;have e1:=cell_later hb d1;have e2:=cell_later hb d2;have e3:=cell_later hb d3;have e4:=cell_later hb d4;clear d0 d1 d2 d3 d4;have hck:=hc xs[k] (n_l hlt);go_wp2_with fail
    refine (szSrc_m xs[k] _ _ hq0 (by omega) hck).mono ?_;rintro e w2 ⟨r,rfl,hr,hs,hb'⟩;have hB:=hb.trans (hb'.mono hb.size);clear hb' e0 e1 e2 e3 e4;by_cases hr0:r<0
    ·clear hs;go_wp2;go_ret
     exact⟨-1,rfl,by omega,by omega,hB⟩
    ·have HS:=hs (by omega);have HS2:Hid (bC xs[k]/\(mSr xs[k]:Int)+r<=q):=HS;clear hs HS;go_wp2;go_roundw
     case rel=>exact⟨k+1,r,by omega,by go_num,rfl,by omega,by omega,by show _<=_;rw[cg _ _ _ hlt];have a1:=HQ.out;have a2:=HS2.out.2;push_cast;omega,aP hlt hall.out HS2.out.1,hB⟩
     case measure=>simp[intOf];omega
   ·have hkn:k=xs.length:=by omega
    have HQ2:Hid ((cf mSr xs:Int)+q<=left-xs.length):=by have:=HQ.out;rwa [hkn,cF] at this
    clear HQ;go_wp2;go_ret
    exact⟨q,rfl,by omega,fun _=>⟨⟨by omega,by have:=hall.out;rwa [List.take_of_length_le (by omega)] at this⟩,by have:=HQ2.out;show ((xs.length+cf mSr xs:Nat):Int)+_<=_;push_cast;omega⟩,hb⟩
theorem szExFrame_m(x:EF)(a0:Option Addr)(c0:Nat)(a1:Option Addr)(c1:Nat)(left:Int)(w:World)(h0:0<=left)(h1:left<=1048576)(hx:f5 x)(p0:bq w 0 a0 x.locals)(p1:bq w 0 a1 x.stack) :
  Calls Tryz.prog 198 #[.agg #[.int .i64 x.fn,.int .i64 x.pc,.slice a0 x.locals.length c0,.slice a1 x.stack.length c1],.int .i64 left] w fun e w'=>∃r:Int,e=.returned (.int .i64 r)/\r<=left/\(0<=r->cz x/\(mEF x:Int)+r<=left)/\Below w.heap.size w w':=by
 have hbA:Below w.heap.size w (w.alloc (.cells #[.int .i64 x.fn,.int .i64 x.pc,.slice a0 x.locals.length c0,.slice a1 x.stack.length c1] 320)):=gM.alloc nL _;have hM0:=ah w #[.int .i64 x.fn,.int .i64 x.pc,.slice a0 x.locals.length c0,.slice a1 x.stack.length c1] 320;go_enter Tryz.func198,Tryz.ntmps198
 go_wp2_with fail
 refine (ff a0 x.locals c0 left _ h0 h1 hx.1 (p0.mono hbA)).mono ?_;rintro e w1 ⟨r0,rfl,hr0,hs0,hb0⟩;have hB0:=hbA.trans (hb0.mono hbA.size);have hM1:=ab hM0 hb0;by_cases hn0:r0<0
 ·clear hs0;go_wp2;go_ret
  exact⟨-1,rfl,by omega,by omega,hB0⟩
 obtain⟨hz0,ha0⟩:=hs0 (by omega);have HA0:Hid ((LM mSr x.locals:Int)+r0<=left):=ha0;clear hs0 ha0;have y1:=aa hM1;go_wp2_with fail
 refine (ff a1 x.stack c1 r0 _ (by omega) (by omega) hx.2 (p1.mono hB0)).mono ?_;rintro e w2 ⟨r1,rfl,hr1,hs1,hb1⟩;have hB1:=hB0.trans (hb1.mono hB0.size);have hM2:=ab hM1 hb1;clear y1;by_cases hn1:r1<0
 ·clear hs1 HA0;go_wp2;go_ret
  exact⟨-1,rfl,by omega,by omega,hB1⟩
 obtain⟨hz1,ha1⟩:=hs1 (by omega);have HA1:Hid ((LM mSr x.stack:Int)+r1<=r0):=ha1;clear hs1 ha1;go_wp2;go_ret
 exact⟨_,rfl,by omega,fun _=>⟨⟨hz0,hz1⟩,by show ((LM mSr x.locals+LM mSr x.stack:Nat):Int)+_<=_;have a0_:=HA0.out;have a1_:=HA1.out;omega⟩,hB1⟩
theorem szExFrameS_m(a:Option Addr)(xs:List EF)(cap:Nat)(left:Int)(w:World)(h0:0<=left)(h1:left<=1048576)(hx:LMax f5 xs)(hm:bZ w 0 a xs) :
  Calls Tryz.prog 170 #[.slice a xs.length cap,.int .i64 left] w fun e w'=>∃r:Int,e=.returned (.int .i64 r)/\r<=left/\(0<=r->aU cz xs/\(LM mEF xs:Int)+r<=left)/\Below w.heap.size w w':=by
 obtain⟨hn,hc⟩:=hx;unfold maxLen at hn;by_cases h:left<xs.length
 ·go_enter Tryz.func170,Tryz.ntmps170
  go_wp2;go_ret
  exact⟨-1,rfl,by omega,by omega,Below.refl _ _⟩
 ·go_enter Tryz.func170,Tryz.ntmps170
  go_wp2;go_loopw [1,5] (fun l i wr=>∃(k:Nat) (q:Int),k<=xs.length/\i=.int .i64 k/\l=.int .i64 q/\0<=q/\q<=left-xs.length/\Hid ((cf mEF (xs.take k):Int)+q<=left-xs.length)/\Hid (∀f∈xs.take k,cz f)/\Below w.heap.size w wr) (fun _ i _=>xs.length-(intOf i).toNat)
  case atStart=>exact⟨0,_,by omega,rfl,rfl,by omega,by omega,by show ((0:Nat):Int)+_<=_;omega,by intro f hf;simp at hf,Below.refl _ _⟩
  case round=>
   obtain⟨k,q,hk,rfl,rfl,hq0,hq1,HQ,hall,hb⟩:=hrel;by_cases hlt:k<xs.length
   ·obtain⟨b,off,a0,c0,a1,c1,rfl,-,d0,d1,d2,d3,p0,p1⟩:=hm k hlt;have e0:=cell_later hb d0;have e1:=cell_later hb d1;have e2:=cell_later hb d2;have e3:=cell_later hb d3;clear d0 d1 d2 d3;have hck:=hc xs[k] (n_l hlt);go_wp2_with fail
    refine (szExFrame_m xs[k] _ _ _ _ _ _ hq0 (by omega) hck (p0.mono hb) (p1.mono hb)).mono ?_;rintro e w2 ⟨r,rfl,hr,hs,hb'⟩;have hB:=hb.trans (hb'.mono hb.size);clear hb' e0 e1 e2 e3;by_cases hr0:r<0
    ·clear hs;go_wp2;go_ret
     exact⟨-1,rfl,by omega,by omega,hB⟩
    ·have HS:=hs (by omega);have HS2:Hid (cz xs[k]/\(mEF xs[k]:Int)+r<=q):=HS;clear hs HS;go_wp2;go_roundw
     case rel=>exact⟨k+1,r,by omega,by go_num,rfl,by omega,by omega,by show _<=_;rw[cg _ _ _ hlt];have a1:=HQ.out;have a2:=HS2.out.2;push_cast;omega,aP hlt hall.out HS2.out.1,hB⟩
     case measure=>simp[intOf];omega
   ·have hkn:k=xs.length:=by omega
    have HQ2:Hid ((cf mEF xs:Int)+q<=left-xs.length):=by have:=HQ.out;rwa [hkn,cF] at this
    clear HQ;go_wp2;go_ret
    exact⟨q,rfl,by omega,fun _=>⟨⟨by omega,by have:=hall.out;rwa [List.take_of_length_le (by omega)] at this⟩,by have:=HQ2.out;show ((xs.length+cf mEF xs:Nat):Int)+_<=_;push_cast;omega⟩,hb⟩
theorem szExRec_m(x:ER)(a0:Option Addr)(c0:Nat)(left:Int)(w:World)(h0:0<=left)(h1:left<=1048576)(hx:fY x)(p0:bq w 0 a0 x.fields) :
  Calls Tryz.prog 199 #[.agg #[.slice a0 x.fields.length c0],.int .i64 left] w fun e w'=>∃r:Int,e=.returned (.int .i64 r)/\r<=left/\(0<=r->cR x/\(mER x:Int)+r<=left)/\Below w.heap.size w w':=by
 have hbA:Below w.heap.size w (w.alloc (.cells #[.slice a0 x.fields.length c0] 323)):=gM.alloc nL _;have hM0:=ah w #[.slice a0 x.fields.length c0] 323;go_enter Tryz.func199,Tryz.ntmps199
 go_wp2_with fail
 refine (ff a0 x.fields c0 left _ h0 h1 hx (p0.mono hbA)).mono ?_;rintro e w1 ⟨r0,rfl,hr0,hs0,hb0⟩;have hB0:=hbA.trans (hb0.mono hbA.size);have hM1:=ab hM0 hb0;by_cases hn0:r0<0
 ·clear hs0;go_wp2;go_ret
  exact⟨-1,rfl,by omega,by omega,hB0⟩
 obtain⟨hz0,ha0⟩:=hs0 (by omega);have HA0:Hid ((LM mSr x.fields:Int)+r0<=left):=ha0;clear hs0 ha0;go_wp2;go_ret
 exact⟨_,rfl,by omega,fun _=>⟨hz0,by show ((LM mSr x.fields:Nat):Int)+_<=_;have a0_:=HA0.out;omega⟩,hB0⟩
theorem szExRecS_m(a:Option Addr)(xs:List ER)(cap:Nat)(left:Int)(w:World)(h0:0<=left)(h1:left<=1048576)(hx:LMax fY xs)(hm:b8 w 0 a xs) :
  Calls Tryz.prog 171 #[.slice a xs.length cap,.int .i64 left] w fun e w'=>∃r:Int,e=.returned (.int .i64 r)/\r<=left/\(0<=r->aU cR xs/\(LM mER xs:Int)+r<=left)/\Below w.heap.size w w':=by
 obtain⟨hn,hc⟩:=hx;unfold maxLen at hn;by_cases h:left<xs.length
 ·go_enter Tryz.func171,Tryz.ntmps171
  go_wp2;go_ret
  exact⟨-1,rfl,by omega,by omega,Below.refl _ _⟩
 ·go_enter Tryz.func171,Tryz.ntmps171
  go_wp2;go_loopw [1,5] (fun l i wr=>∃(k:Nat) (q:Int),k<=xs.length/\i=.int .i64 k/\l=.int .i64 q/\0<=q/\q<=left-xs.length/\Hid ((cf mER (xs.take k):Int)+q<=left-xs.length)/\Hid (∀f∈xs.take k,cR f)/\Below w.heap.size w wr) (fun _ i _=>xs.length-(intOf i).toNat)
  case atStart=>exact⟨0,_,by omega,rfl,rfl,by omega,by omega,by show ((0:Nat):Int)+_<=_;omega,by intro f hf;simp at hf,Below.refl _ _⟩
  case round=>
   obtain⟨k,q,hk,rfl,rfl,hq0,hq1,HQ,hall,hb⟩:=hrel;by_cases hlt:k<xs.length
   ·obtain⟨b,off,a0,c0,rfl,-,d0,p0⟩:=hm k hlt;have e0:=cell_later hb d0;clear d0;have hck:=hc xs[k] (n_l hlt);go_wp2_with fail
    refine (szExRec_m xs[k] _ _ _ _ hq0 (by omega) hck (p0.mono hb)).mono ?_;rintro e w2 ⟨r,rfl,hr,hs,hb'⟩;have hB:=hb.trans (hb'.mono hb.size);clear hb' e0;by_cases hr0:r<0
    ·clear hs;go_wp2;go_ret
     exact⟨-1,rfl,by omega,by omega,hB⟩
    ·have HS:=hs (by omega);have HS2:Hid (cR xs[k]/\(mER xs[k]:Int)+r<=q):=HS;clear hs HS;go_wp2;go_roundw
     case rel=>exact⟨k+1,r,by omega,by go_num,rfl,by omega,by omega,by show _<=_;rw[cg _ _ _ hlt];have a1:=HQ.out;have a2:=HS2.out.2;push_cast;omega,aP hlt hall.out HS2.out.1,hB⟩
     case measure=>simp[intOf];omega
   ·have hkn:k=xs.length:=by omega
    have HQ2:Hid ((cf mER xs:Int)+q<=left-xs.length):=by have:=HQ.out;rwa [hkn,cF] at this
    clear HQ;go_wp2;go_ret
    exact⟨q,rfl,by omega,fun _=>⟨⟨by omega,by have:=hall.out;rwa [List.take_of_length_le (by omega)] at this⟩,by have:=HQ2.out;show ((xs.length+cf mER xs:Nat):Int)+_<=_;push_cast;omega⟩,hb⟩
theorem szExit_m(x:Ex)(a0:Option Addr)(c0:Nat)(a1:Option Addr)(c1:Nat)(left:Int)(w:World)(h0:0<=left)(h1:left<=1048576)(hx:f6 x)(p0:bZ w 0 a0 x.frames)(p1:b8 w 0 a1 x.recs) :
  Calls Tryz.prog 127 #[.agg #[.int .i64 x.kind,.int .i64 x.spec.f,.int .i64 x.spec.pc,.int .i64 x.spec.seen,.int .i64 x.spec.target,.slice a0 x.frames.length c0,.slice a1 x.recs.length c1],.int .i64 left] w fun e w'=>∃r:Int,e=.returned (.int .i64 r)/\r<=left/\(0<=r->ck x/\(mEx x:Int)+r<=left)/\Below w.heap.size w w':=by
 have hbA:Below w.heap.size w (w.alloc (.cells #[.int .i64 x.kind,.int .i64 x.spec.f,.int .i64 x.spec.pc,.int .i64 x.spec.seen,.int .i64 x.spec.target,.slice a0 x.frames.length c0,.slice a1 x.recs.length c1] 219)):=gM.alloc nL _;have hM0:=ah w #[.int .i64 x.kind,.int .i64 x.spec.f,.int .i64 x.spec.pc,.int .i64 x.spec.seen,.int .i64 x.spec.target,.slice a0 x.frames.length c0,.slice a1 x.recs.length c1] 219;go_enter Tryz.func127,Tryz.ntmps127
 go_wp2_with fail
 refine (szExFrameS_m a0 x.frames c0 left _ h0 h1 hx.1 (p0.mono hbA)).mono ?_;rintro e w1 ⟨r0,rfl,hr0,hs0,hb0⟩;have hB0:=hbA.trans (hb0.mono hbA.size);have hM1:=ab hM0 hb0;by_cases hn0:r0<0
 ·clear hs0;go_wp2;go_ret
  exact⟨-1,rfl,by omega,by omega,hB0⟩
 obtain⟨hz0,ha0⟩:=hs0 (by omega);have HA0:Hid ((LM mEF x.frames:Int)+r0<=left):=ha0;clear hs0 ha0;have y1:=aa hM1;go_wp2_with fail
 refine (szExRecS_m a1 x.recs c1 r0 _ (by omega) (by omega) hx.2 (p1.mono hB0)).mono ?_;rintro e w2 ⟨r1,rfl,hr1,hs1,hb1⟩;have hB1:=hB0.trans (hb1.mono hB0.size);have hM2:=ab hM1 hb1;clear y1;by_cases hn1:r1<0
 ·clear hs1 HA0;go_wp2;go_ret
  exact⟨-1,rfl,by omega,by omega,hB1⟩
 obtain⟨hz1,ha1⟩:=hs1 (by omega);have HA1:Hid ((LM mER x.recs:Int)+r1<=r0):=ha1;clear hs1 ha1;go_wp2;go_ret
 exact⟨_,rfl,by omega,fun _=>⟨⟨hz0,hz1⟩,by show ((LM mEF x.frames+LM mER x.recs:Nat):Int)+_<=_;have a0_:=HA0.out;have a1_:=HA1.out;omega⟩,hB1⟩
theorem szExitS_m(a:Option Addr)(xs:List Ex)(cap:Nat)(left:Int)(w:World)(h0:0<=left)(h1:left<=1048576)(hx:LMax f6 xs)(hm:bV w 0 a xs) :
  Calls Tryz.prog 81 #[.slice a xs.length cap,.int .i64 left] w fun e w'=>∃r:Int,e=.returned (.int .i64 r)/\r<=left/\(0<=r->aU ck xs/\(LM mEx xs:Int)+r<=left)/\Below w.heap.size w w':=by
 obtain⟨hn,hc⟩:=hx;unfold maxLen at hn;by_cases h:left<xs.length
 ·go_enter Tryz.func81,Tryz.ntmps81
  go_wp2;go_ret
  exact⟨-1,rfl,by omega,by omega,Below.refl _ _⟩
 ·go_enter Tryz.func81,Tryz.ntmps81
  go_wp2;go_loopw [1,5] (fun l i wr=>∃(k:Nat) (q:Int),k<=xs.length/\i=.int .i64 k/\l=.int .i64 q/\0<=q/\q<=left-xs.length/\Hid ((cf mEx (xs.take k):Int)+q<=left-xs.length)/\Hid (∀f∈xs.take k,ck f)/\Below w.heap.size w wr) (fun _ i _=>xs.length-(intOf i).toNat)
  case atStart=>exact⟨0,_,by omega,rfl,rfl,by omega,by omega,by show ((0:Nat):Int)+_<=_;omega,by intro f hf;simp at hf,Below.refl _ _⟩
  case round=>
   obtain⟨k,q,hk,rfl,rfl,hq0,hq1,HQ,hall,hb⟩:=hrel;by_cases hlt:k<xs.length
   ·obtain⟨b,off,a0,c0,a1,c1,rfl,-,d0,d1,d2,d3,d4,d5,d6,p0,p1⟩:=hm k hlt;have e0:=cell_later hb d0;have e1:=cell_later hb d1;have e2:=cell_later hb d2;have e3:=cell_later hb d3;have e4:=cell_later hb d4;have e5:=cell_later hb d5;have e6:=cell_later hb d6;clear d0 d1 d2 d3 d4 d5 d6;have hck:=hc xs[k] (n_l hlt);go_wp2_with fail
    refine (szExit_m xs[k] _ _ _ _ _ _ hq0 (by omega) hck (p0.mono hb) (p1.mono hb)).mono ?_;rintro e w2 ⟨r,rfl,hr,hs,hb'⟩;have hB:=hb.trans (hb'.mono hb.size);clear hb' e0 e1 e2 e3 e4 e5 e6;by_cases hr0:r<0
    ·clear hs;go_wp2;go_ret
     exact⟨-1,rfl,by omega,by omega,hB⟩
    ·have HS:=hs (by omega);have HS2:Hid (ck xs[k]/\(mEx xs[k]:Int)+r<=q):=HS;clear hs HS;go_wp2;go_roundw
     case rel=>exact⟨k+1,r,by omega,by go_num,rfl,by omega,by omega,by show _<=_;rw[cg _ _ _ hlt];have a1:=HQ.out;have a2:=HS2.out.2;push_cast;omega,aP hlt hall.out HS2.out.1,hB⟩
     case measure=>simp[intOf];omega
   ·have hkn:k=xs.length:=by omega
    have HQ2:Hid ((cf mEx xs:Int)+q<=left-xs.length):=by have:=HQ.out;rwa [hkn,cF] at this
    clear HQ;go_wp2;go_ret
    exact⟨q,rfl,by omega,fun _=>⟨⟨by omega,by have:=hall.out;rwa [List.take_of_length_le (by omega)] at this⟩,by have:=HQ2.out;show ((xs.length+cf mEx xs:Nat):Int)+_<=_;push_cast;omega⟩,hb⟩
theorem szFOp_m(x:Fo)(left:Int)(w:World)(h0:0<=left)(h1:left<=1048576)(hx:fJ x) :
  Calls Tryz.prog 126 #[.agg #[.int .i64 x.op,.int .i64 x.d,.int .i64 x.a,.int .i64 x.b,.int .i64 x.x,.int .i64 x.f,.int .i64 x.p,.int .i64 x.v.k,.int .i64 x.v.n,.string x.v.s],.int .i64 left] w fun e w'=>∃r:Int,e=.returned (.int .i64 r)/\r<=left/\(0<=r->cL x/\(mFo x:Int)+r<=left)/\Below w.heap.size w w':=by
 have hbA:Below w.heap.size w (w.alloc (.cells #[.int .i64 x.op,.int .i64 x.d,.int .i64 x.a,.int .i64 x.b,.int .i64 x.x,.int .i64 x.f,.int .i64 x.p,.int .i64 x.v.k,.int .i64 x.v.n,.string x.v.s] 213)):=gM.alloc nL _;unfold fJ at hx;go_enter Tryz.func126,Tryz.ntmps126
 go_wp2_with fail
 refine (cW _ _ _ _ _ h0 h1 hx).mono ?_;rintro e w1 ⟨rfl,hb⟩;have hB:=hbA.trans (hb.mono hbA.size);by_cases hr:left<(x.v.s.size:Int)
 ·rw[if_pos hr];go_wp2;go_ret
  exact⟨-1,rfl,by omega,by omega,hB⟩
 ·rw[if_neg hr];have hr0:¬left-(x.v.s.size:Int)<0:=by omega
  go_wp2;go_ret
  exact⟨_,rfl,by omega,fun _=>⟨by show _<=_;omega,by show ((0:Nat):Int)+_<=_;omega⟩,hB⟩
theorem szFOpS_m(a:Option Addr)(xs:List Fo)(cap:Nat)(left:Int)(w:World)(h0:0<=left)(h1:left<=1048576)(hx:LMax fJ xs)(hm:bS w 0 a xs) :
  Calls Tryz.prog 80 #[.slice a xs.length cap,.int .i64 left] w fun e w'=>∃r:Int,e=.returned (.int .i64 r)/\r<=left/\(0<=r->aU cL xs/\(LM mFo xs:Int)+r<=left)/\Below w.heap.size w w':=by
 obtain⟨hn,hc⟩:=hx;unfold maxLen at hn;by_cases h:left<xs.length
 ·go_enter Tryz.func80,Tryz.ntmps80
  go_wp2;go_ret
  exact⟨-1,rfl,by omega,by omega,Below.refl _ _⟩
 ·go_enter Tryz.func80,Tryz.ntmps80
  go_wp2;go_loopw [1,5] (fun l i wr=>∃(k:Nat) (q:Int),k<=xs.length/\i=.int .i64 k/\l=.int .i64 q/\0<=q/\q<=left-xs.length/\Hid ((cf mFo (xs.take k):Int)+q<=left-xs.length)/\Hid (∀f∈xs.take k,cL f)/\Below w.heap.size w wr) (fun _ i _=>xs.length-(intOf i).toNat)
  case atStart=>exact⟨0,_,by omega,rfl,rfl,by omega,by omega,by show ((0:Nat):Int)+_<=_;omega,by intro f hf;simp at hf,Below.refl _ _⟩
  case round=>
   obtain⟨k,q,hk,rfl,rfl,hq0,hq1,HQ,hall,hb⟩:=hrel;by_cases hlt:k<xs.length
   ·obtain⟨b,off,rfl,-,d0,d1,d2,d3,d4,d5,d6,d7,d8,d9⟩:=hm k hlt;have e0:=cell_later hb d0;have e1:=cell_later hb d1;have e2:=cell_later hb d2;have e3:=cell_later hb d3;have e4:=cell_later hb d4;have e5:=cell_later hb d5;have e6:=cell_later hb d6;have e7:=cell_later hb d7;have e8:=cell_later hb d8;have e9:=cell_later hb d9;clear d0 d1 d2 d3 d4 d5 d6 d7 d8 d9;have hck:=hc xs[k] (n_l hlt);go_wp2_with fail
    refine (szFOp_m xs[k] _ _ hq0 (by omega) hck).mono ?_;rintro e w2 ⟨r,rfl,hr,hs,hb'⟩;have hB:=hb.trans (hb'.mono hb.size);clear hb' e0 e1 e2 e3 e4 e5 e6 e7 e8 e9;by_cases hr0:r<0
    ·clear hs;go_wp2;go_ret
     exact⟨-1,rfl,by omega,by omega,hB⟩
    ·have HS:=hs (by omega);have HS2:Hid (cL xs[k]/\(mFo xs[k]:Int)+r<=q):=HS;clear hs HS;go_wp2;go_roundw
     case rel=>exact⟨k+1,r,by omega,by go_num,rfl,by omega,by omega,by show _<=_;rw[cg _ _ _ hlt];have a1:=HQ.out;have a2:=HS2.out.2;push_cast;omega,aP hlt hall.out HS2.out.1,hB⟩
     case measure=>simp[intOf];omega
   ·have hkn:k=xs.length:=by omega
    have HQ2:Hid ((cf mFo xs:Int)+q<=left-xs.length):=by have:=HQ.out;rwa [hkn,cF] at this
    clear HQ;go_wp2;go_ret
    exact⟨q,rfl,by omega,fun _=>⟨⟨by omega,by have:=hall.out;rwa [List.take_of_length_le (by omega)] at this⟩,by have:=HQ2.out;show ((xs.length+cf mFo xs:Nat):Int)+_<=_;push_cast;omega⟩,hb⟩
end Go.Proofs.YtdlkbbgmjilccaaGreatDoor
