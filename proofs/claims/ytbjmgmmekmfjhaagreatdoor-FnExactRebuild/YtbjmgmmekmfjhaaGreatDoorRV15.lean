/- RV15 -/
import Derived.Test.YtbjmgmmekmfjhaaGreatDoorRV2
import Derived.Test.YtbjmgmmekmfjhaaGreatDoorRV9
import Derived.RangeFuncNested
import Derived.RangeFuncBound
import Derived.RangeFuncCalls
import Derived.RangeFuncLeaves
import Derived.Shelf.Abstract
import Derived.Shelf.RegionOpen
import Derived.OwnWalkIn
import Derived.TacticsInMore
import Derived.LoopNIn
import Derived.LoopIn
set_option maxHeartbeats 32000000
set_option maxRecDepth 100000
namespace Go.Proofs.YtbjmgmmekmfjhaaGreatDoor
open Go.RowKit Go.Shelf
attribute [local go_sem] Oper.semAt_some
structure Jp where
 at':Nat
 op:Int
 a:Nat
 h1:at'+1<128
 h2:a<128
def isJ (code:List (Int×Int))(d:List Int)(k:Nat):Prop:=d.getD k (-1)≠-1/\((code.getD k (0,0)).1=17\/(code.getD k (0,0)).1=18\/(code.getD k (0,0)).1=19)
def JOk (code:List (Int×Int)):Prop:=code.length<=120/\∀k,k<code.length->((code.getD k (0,0)).1=17\/(code.getD k (0,0)).1=18\/(code.getD k (0,0)).1=19)->0<=(code.getD k (0,0)).2/\(code.getD k (0,0)).2<120
open Classical in
noncomputable def jl (code:List (Int×Int)) (d:List Int):Nat->List Jp
 | 0=>[]
 | k+1=>if h:isJ code d k/\k+1<128/\(code.getD k (0,0)).2.toNat<128 then jl code d k++[⟨k,(code.getD k (0,0)).1,(code.getD k (0,0)).2.toNat,h.2.1,h.2.2⟩] else jl code d k
theorem jl_no{code:List (Int×Int)}{d:List Int}{k:Nat}(h:¬isJ code d k):jl code d (k+1)=jl code d k:=dif_neg (fun q=>h q.1)
theorem jl_yes{code:List (Int×Int)}{d:List Int}{k:Nat}(H:JOk code)(hk:k<code.length)(h:isJ code d k) :
  ∃x:Jp,x.at'=k/\x.op=code[k].1/\(x.a:Int)=code[k].2/\jl code d (k+1)=jl code d k++[x]:=by
 have h2:=H.2 k hk h.2;have hl:=H.1;have e:code.getD k (0,0)=code[k]:=by rw[List.getD_eq_getElem?_getD,List.getElem?_eq_getElem hk];rfl
 refine⟨⟨k,(code.getD k (0,0)).1,(code.getD k (0,0)).2.toNat,by omega,by omega⟩,rfl,by show (code.getD k (0,0)).1=_;rw[e],by show (((code.getD k (0,0)).2.toNat:Nat):Int)=_;rw[<-e];omega,dif_pos ⟨h,by omega,by omega⟩⟩
theorem jl_len(code:List (Int×Int))(d:List Int)(k:Nat):(jl code d k).length<=k:=by
 induction k with
 | zero=>simp[jl]
 | succ k ih=>
  unfold jl;split
  ·simp;omega
  ·omega
def encJ (x:Jp):Array Value:=#[.int .i64 (x.at':Int),.agg #[.int .i64 x.op,.int .i64 (x.a:Int)]]
theorem jumpOp_any(op:Int)(w:World):Calls Tryz.prog 266 #[.int .i64 op] w fun e w'=>e=.returned (.bool (decide (op=17\/op=18\/op=19)))/\w'=w:=by
 by_cases h1:op=17
 ·subst h1;go_enter Tryz.func266,Tryz.ntmps266
  go_wp2;go_ret
  exact⟨rfl,rfl⟩
 by_cases h2:op=18
 ·subst h2;go_enter Tryz.func266,Tryz.ntmps266
  go_wp2;go_ret
  exact⟨rfl,rfl⟩
 by_cases h3:op=19
 ·subst h3;go_enter Tryz.func266,Tryz.ntmps266
  go_wp2;go_ret
  exact⟨rfl,rfl⟩
 rw[decide_eq_false (by omega)];go_enter Tryz.func266,Tryz.ntmps266
 go_wp2;go_ret
 exact⟨rfl,rfl⟩
def Kq (n₀ Bh:Nat)(W W':World):Prop:=Below n₀ W W'/\∀o,W.heap[Bh]?=some o->W'.heap[Bh]?=some o
theorem Kq.trans{n₀ Bh:Nat}{A B C:World}(h:Kq n₀ Bh A B)(k:Kq n₀ Bh B C):Kq n₀ Bh A C:=⟨h.1.trans k.1,fun o ho=>k.2 o (h.2 o ho)⟩
theorem Kq.put{n₀ Bh:Nat}{w:World}(hn:n₀<=w.heap.size)(hB:Bh<w.heap.size)(W:World)(l:Nat)(o o':Obj)(hl:w.heap.size<=l)(h:W.heap[l]?=some o)(h1:o.isCells=false)(h2:o.isWalk=false):Kq n₀ Bh W (W.putObj l o'):=
 ⟨belowK_b hn W l o o' hl h h1 h2,fun x hx=>(World.putObj_heap_other (by omega)).trans hx⟩
theorem jumps1_in(n:Nat)(hn:2<=n)(l Bc Bh n₀ g cap cc:Nat)(ca:Option Addr)(code:List (Int×Int))(d:List Int)(HJ:JOk code)(hd:d.length=code.length)(J Jx:List Jp->World->Prop)
  (hY:∀pre x W,J pre W->pre.length<code.length->YieldAt Fence.wide (n-1) Tryz.prog l (encJ x) W fun e W'=>
   (e=.returned (.bool true)/\J (pre++[x]) W'/\Kq n₀ Bh W W')\/(e=.returned (.bool false)/\Jx (pre++[x]) W'))
  (W:World) (hJ:AbidesFrom W.heap.size J) (hBc:W.cell? ⟨Bc,0,none⟩=some (.slice ca code.length cc)) (hBh:W.heap[Bh]?=some (.cells #[.slice (some ⟨g,0,none⟩) code.length code.length] 50 (0,0)))
  (hcode:bn W 0 ca code)(hclt:∀b off,ca=some ⟨b,off,none⟩->b<n₀)(hH:Ht W g cap d)(hg:g<n₀)(hn₀:n₀<=W.heap.size)(h0:J [] W) :
  CallsIn Fence.wide n Tryz.prog 265 #[.func (.yield l) #[] #[],.pointer (some ⟨Bc,0,none⟩),.pointer (some ⟨Bh,0,none⟩)] W fun e W'=>(∃v,e=.returned v) /\
   ((∃ys,ys=jl code d code.length/\J ys W')\/(∃pre,True/\Jx pre W')):=by
 refine callsIn_of_wp Tryz.func265 rfl trivial ?_ rfl;simp only[Tryz.ntmps265,List.size_toArray,List.length_cons,List.length_nil,Nat.reduceAdd,Nat.reduceSub,Array.replicate_succ,Array.replicate_zero,List.push_toArray,List.append_toArray,List.nil_append,List.cons_append]
 gi_wp2
 gi_loopw [8] (fun i wr=>∃k:Nat,k<=code.length/\i=.int .i64 k/\J (jl code d k) wr/\Below n₀ W wr/\wr.heap[Bh]?=some (.cells #[.slice (some ⟨g,0,none⟩) code.length code.length] 50 (0,0)))
  (fun i _=>code.length-(intOf i).toNat)
 case atStart=>exact⟨0,Nat.zero_le _,rfl,h0,Below.refl _ _,hBh⟩
 case round=>
  obtain⟨k,hk,rfl,hJs,hnx,hB⟩:=hrel;by_cases hlt:k<code.length
  case neg=>
   obtain rfl:k=code.length:=by omega
   gi_wp2
   go_end0
   exact⟨⟨_,rfl⟩,.inl ⟨_,rfl,hJs⟩⟩
  have hkd:k<d.length:=by omega
  have hl120:=HJ.1;obtain⟨b,off,rfl,-,c1,c2⟩:=hcode k hlt;have hb:=hclt b off rfl;obtain⟨wx,hwx⟩:∃wx,wx=wr.alloc (.cells #[.int .i64 code[k].1,.int .i64 code[k].2] 263):=⟨_,rfl⟩;have hbx:Below wr.heap.size wr wx:=by rw[hwx];exact b_r.alloc n_l _
  have hnw:n₀<=wr.heap.size:=Nat.le_trans hn₀ hnx.size;have hJx0:J (jl code d k) wx:=by rw[hwx];exact hJ _ wr _ none hJs (World.grownBy_alloc wr _ none) (fun r e=>by cases e)
  have c1':=(hnx.cell (p:=⟨b,off+k*2,none⟩) hb).trans c1;have c2':=(hnx.cell (p:=⟨b,off+k*2+1,none⟩) hb).trans c2;have c3:=(hnx.cell (p:=⟨g,k,none⟩) hg).trans (hH.cell hkd);have HC3:Hid (wx.cell? ⟨g,k,none⟩=some (.int .i64 d[k])):=cell_later hbx c3;have HB3:Hid (wx.heap[Bh]?=some (.cells #[.slice (some ⟨g,0,none⟩) code.length code.length] 50 (0,0))):=ah hB hbx;have HX3:Hid (wx.heap[wr.heap.size]?=some (.cells #[.int .i64 code[k].1,.int .i64 code[k].2] 263 (0,0))):=by show _=_;rw[hwx];exact al _ _ _
  have ed:d.getD k (-1)=d[k]:=by rw[List.getD_eq_getElem?_getD,List.getElem?_eq_getElem hkd];rfl
  have ec:code.getD k (0,0)=code[k]:=by rw[List.getD_eq_getElem?_getD,List.getElem?_eq_getElem hlt];rfl
  clear c1 c2 c3;have c3:=cell_later (wx:=wr.alloc (.cells #[.int .i64 code[k].1,.int .i64 code[k].2] 263)) (b_r.alloc n_l _) ((hnx.cell (p:=⟨g,k,none⟩) hg).trans (hH.cell hkd));have c4:=ae (au hB (.cells #[.int .i64 code[k].1,.int .i64 code[k].2] 263));have HJs:Hid (J (jl code d k) wx):=hJx0;have HB0:Hid (Below n₀ W wx):=hnx.trans (hbx.mono hnw);have HED:Hid (isJ code d k↔d[k]≠-1/\(code[k].1=17\/code[k].1=18\/code[k].1=19)):=by show _↔_;unfold isJ;rw[ed,ec]
  clear ed ec hJx0 hJs;by_cases hz:d[k]=-1
  ·have HNo:Hid (jl code d (k+1)=jl code d k):=jl_no (fun h=>(HED.out.1 h).1 hz);have c3':=c3;rw[hz] at c3';clear c3;gi_wp2
   refine⟨trivial,?_⟩;gi_wp2
   refine⟨fun _ h=>(by cases h),?_⟩;gi_wp2
   rw[<-hwx];go_roundw
   case rel=>exact⟨k+1,by omega,by go_num,by rw[HNo.out];exact HJs.out,HB0.out,HB3.out⟩
   case measure=>simp[intOf];omega
  have hz':(d[k] != -1)=true:=by simpa using hz
  by_cases hj:code[k].1=17\/code[k].1=18\/code[k].1=19
  case neg=>
   have HNo:Hid (jl code d (k+1)=jl code d k):=jl_no (fun h=>hj (HED.out.1 h).2);gi_wp2
   refine⟨trivial,fun _=>by omega,?_⟩;refine (callsIn_wide.2 (jumpOp_any _ _)).mono ?_;rintro e w1 ⟨rfl,rfl⟩;rw[decide_eq_false hj];gi_wp2
   refine⟨fun _ h=>(by cases h),?_⟩;gi_wp2
   rw[<-hwx];go_roundw
   case rel=>exact⟨k+1,by omega,by go_num,by rw[HNo.out];exact HJs.out,HB0.out,HB3.out⟩
   case measure=>simp[intOf];omega
  obtain⟨x,hx1,hx2,hx3,hx4⟩:=jl_yes HJ hlt (HED.out.2 ⟨hz,hj⟩);have HX4:Hid (jl code d (k+1)=jl code d k++[x]):=hx4;clear hx4;obtain⟨fn,tmps,assign,body,hy,hR⟩:=hY _ x wx HJs.out (Nat.lt_of_le_of_lt (jl_len _ _ _) hlt);simp only[encJ,hx1,hx2,hx3] at hy
  rw[hwx] at hy;have x5:=ae (al wr #[.int .i64 code[k].1,.int .i64 code[k].2] 263);gi_wp2
  refine⟨trivial,fun _=>by omega,?_⟩;refine (callsIn_wide.2 (jumpOp_any _ _)).mono ?_;rintro e w1 ⟨rfl,rfl⟩;rw[decide_eq_true hj];gi_wp2
  refine⟨fun _=>by omega,?_⟩;rw[<-hwx];refine hR.mono ?_;rintro e W3 (⟨rfl,hJ3,hk3⟩ | ⟨rfl,hJx3⟩)
  ·gi_wp2
   go_roundw
   case rel=>exact⟨k+1,by omega,by go_num,by rw[HX4.out];exact hJ3,HB0.out.trans hk3.1,hk3.2 _ HB3.out⟩
   case measure=>simp[intOf];omega
  ·gi_wp2
   refine bodyPost_ret (results_none rfl _ _ _) rfl ?_;exact⟨⟨_,rfl⟩,.inr ⟨_,trivial,hJx3⟩⟩
theorem jumps_any(a b:Option Addr)(n c n2 c2:Nat)(w:World) :
  Calls Tryz.prog 219 #[.slice a n c,.slice b n2 c2] w fun e w'=>e=.returned (.func (.func 265) #[] #[.pointer (some ⟨w.heap.size,0,none⟩),.pointer (some ⟨w.heap.size+1,0,none⟩)])/\w'=(w.alloc (.cells #[.slice a n c] 158)).alloc (.cells #[.slice b n2 c2] 50):=by
 go_enter Tryz.func219,Tryz.ntmps219
 go_wp2;go_ret
 exact⟨rfl,rfl⟩
theorem jumps_stops(n:Nat)(hn:2<=n)(Bc Bh n₀ g cap cc:Nat)(ca:Option Addr)(code:List (Int×Int))(d:List Int)(HJ:JOk code)(hd:d.length=code.length)(w:World)
  (hBc:w.cell? ⟨Bc,0,none⟩=some (.slice ca code.length cc)) (hBcl:Bc<w.heap.size) (hBh:w.heap[Bh]?=some (.cells #[.slice (some ⟨g,0,none⟩) code.length code.length] 50 (0,0)))
  (hcode:bn w 0 ca code)(hclt:∀b off,ca=some ⟨b,off,none⟩->b<n₀)(hH:Ht w g cap d)(hg:g<n₀)(hn₀:n₀<=w.heap.size) :
  SeqStopsK Fence.wide n Tryz.prog 265 #[.pointer (some ⟨Bc,0,none⟩),.pointer (some ⟨Bh,0,none⟩)] encJ (Kq n₀ Bh) (fun ys=>ys=jl code d code.length) (fun _=>True) code.length w:=fun l J Jx W hW hJ _ hY h0=>
 jumps1_in n hn l Bc Bh n₀ g cap cc ca code d HJ hd J Jx hY W hJ ((hW.cell (p:=⟨Bc,0,none⟩) hBcl).trans hBc) (ah hBh hW) (hcode.mono hW) hclt (hH.mono hW) hg (Nat.le_trans hn₀ hW.size) h0
attribute [local go_sem] Oper.semAt_some
def dt (st:(Nat×Nat)×(Nat×Nat))(x:Jp):(Nat×Nat)×(Nat×Nat):=
 (if x.op=17 then bw st.1 x.a else bw (bw st.1 x.a) (x.at'+1),if x.a<=x.at' then bw st.2 x.a else st.2)
def flowB (xs:List Jp):(Nat×Nat)×(Nat×Nat):=xs.foldl dt ((1,0),(0,0))
theorem flowB_snoc(xs:List Jp)(x:Jp):flowB (xs++[x])=dt (flowB xs) x:=by simp[flowB]
def fok (st:(Nat×Nat)×(Nat×Nat)):Prop:=bok st.1/\bok st.2
theorem fstep_ok{st:(Nat×Nat)×(Nat×Nat)}(h:fok st)(x:Jp):fok (dt st x):=by
 have h1:=gX h.1 x.h2;refine⟨?_,?_⟩
 ·show bok (if _ then _ else _)
  split
  ·exact h1
  ·exact gX h1 x.h1
 ·show bok (if _ then _ else _)
  split
  ·exact gX h.2 x.h2
  ·exact h.2
theorem fold_ok(xs:List Jp){st:(Nat×Nat)×(Nat×Nat)}(h:fok st):fok (xs.foldl dt st):=by
 induction xs generalizing st with
 | nil=>exact h
 | cons x xs ih=>exact ih (fstep_ok h x)
theorem flowB_ok(xs:List Jp):fok (flowB xs):=fold_ok xs ⟨⟨by decide,by decide⟩,by decide,by decide⟩
def fK (st:(Nat×Nat)×(Nat×Nat)):Array Value:=#[.int .u64 (st.1.1:Int),.int .u64 (st.1.2:Int),.int .u64 (st.2.1:Int),.int .u64 (st.2.2:Int)]
def fv (st:(Nat×Nat)×(Nat×Nat)):Value:=.agg (fK st)
theorem fd{β:Type}(B:Nat)(t:TypeId)(f:β->Array Value):Own (fun s W=>W.heap[B]?=some (.cells (f s) t (0,0))):=fun s X Y row hs hg hrow=>by
 refine (hg.block B (Array.getElem?_eq_some_iff.1 hs).1 (fun e'=>?_)).trans hs;obtain⟨o,ho,hc⟩:=hrow B e'.symm;rw[hs] at ho;cases ho;cases hc
theorem with_zero(w:World):Calls Tryz.prog 218 #[.agg #[.int .u64 0,.int .u64 0],.int .i64 0] w fun e w'=>e=.returned (.agg #[.int .u64 1,.int .u64 0])/\Below w.heap.size w w':=
 with_any (0,0) 0 w ⟨by decide,by decide⟩ (by decide)
structure FlS (w W:World)(n₀ B0 F R Bh Bx:Nat)(op a:Int)(W':World)(st:(Nat×Nat)×(Nat×Nat)):Prop where
 fl:W'.heap[F]?=some (.cells (fK st) 248 (0,0))
 res:W'.heap[R]?=some (.cells #[.int .u64 0,.int .u64 0,.int .u64 0,.int .u64 0] 248 (0,0))
 x:W'.heap[Bx]?=some (.cells #[.int .i64 op,.int .i64 a] 263 (0,0))
 kq:Kq n₀ Bh W W'
 kf:KeepsFrom B0 W W'
 below:Below n₀ w W'
theorem FlS.call{w W W' W'':World}{n₀ B0 F R Bh Bx:Nat}{op a:Int}{st:(Nat×Nat)×(Nat×Nat)}(h:FlS w W n₀ B0 F R Bh Bx op a W' st)(hn:n₀<=F)(hb:Below W'.heap.size W' W''):FlS w W n₀ B0 F R Bh Bx op a W'' st:=by
 have hm:n₀<=W'.heap.size:=Nat.le_trans hn (Nat.le_of_lt (ay h.fl));exact⟨ah h.fl hb,ah h.res hb,ah h.x hb,h.kq.trans ⟨hb.mono hm,fun _ ho=>ah ho hb⟩,h.kf.trans ⟨hb.size,fun _ _ _ hk _=>ah hk hb⟩,h.below.trans (hb.mono hm)⟩
theorem gA{n₀ Bh F i:Nat}{W:World}{v:Value}(hn:n₀<=F)(hne:Bh≠F):Kq n₀ Bh W (W.setCell ⟨F,i,none⟩ v):=
 ⟨b_r.setCell (p:=⟨F,i,none⟩) hn _,fun _ ho=>(Below.heap_setCell _ _ _ _ hne).trans ho⟩
theorem FlS.lo{w W W':World}{n₀ B0 F R Bh Bx:Nat}{op a:Int}{st:(Nat×Nat)×(Nat×Nat)}(h:FlS w W n₀ B0 F R Bh Bx op a W' st)(hn:n₀<=F)(h1:R≠F)(h2:Bh≠F)(h3:Bx≠F)(x y:Nat) :
  FlS w W n₀ B0 F R Bh Bx op a ((W'.setCell ⟨F,0,none⟩ (.int .u64 (x:Int))).setCell ⟨F,1,none⟩ (.int .u64 (y:Int))) ((x,y),st.2):=by
 refine⟨?_,?_,?_,(h.kq.trans (gA hn h2)).trans (gA hn h2),(h.kf.trans ((KeepsOthers.setCell _ _ _).from _)).trans ((KeepsOthers.setCell _ _ _).from _),(h.below.setCell (p:=⟨F,0,none⟩) hn _).setCell (p:=⟨F,1,none⟩) hn _⟩
 ·have:=ak (i:=1) (ak (i:=0) h.fl (.int .u64 (x:Int))) (.int .u64 (y:Int));simpa[fK] using this
 ·rw[Below.heap_setCell _ _ _ _ h1,Below.heap_setCell _ _ _ _ h1];exact h.res
 ·rw[Below.heap_setCell _ _ _ _ h3,Below.heap_setCell _ _ _ _ h3];exact h.x
theorem FlS.hi{w W W':World}{n₀ B0 F R Bh Bx:Nat}{op a:Int}{st:(Nat×Nat)×(Nat×Nat)}(h:FlS w W n₀ B0 F R Bh Bx op a W' st)(hn:n₀<=F)(h1:R≠F)(h2:Bh≠F)(h3:Bx≠F)(x y:Nat) :
  FlS w W n₀ B0 F R Bh Bx op a ((W'.setCell ⟨F,2,none⟩ (.int .u64 (x:Int))).setCell ⟨F,3,none⟩ (.int .u64 (y:Int))) (st.1,(x,y)):=by
 refine⟨?_,?_,?_,(h.kq.trans (gA hn h2)).trans (gA hn h2),(h.kf.trans ((KeepsOthers.setCell _ _ _).from _)).trans ((KeepsOthers.setCell _ _ _).from _),(h.below.setCell (p:=⟨F,2,none⟩) hn _).setCell (p:=⟨F,3,none⟩) hn _⟩
 ·have:=ak (i:=3) (ak (i:=2) h.fl (.int .u64 (x:Int))) (.int .u64 (y:Int));simpa[fK] using this
 ·rw[Below.heap_setCell _ _ _ _ h1,Below.heap_setCell _ _ _ _ h1];exact h.res
 ·rw[Below.heap_setCell _ _ _ _ h3,Below.heap_setCell _ _ _ _ h3];exact h.x
theorem fw(x y k:Nat)(w:World)(hs:bok (x,y))(hk:k<128) :
  Calls Tryz.prog 218 #[.agg #[.int .u64 (x:Int),.int .u64 (y:Int)],.int .i64 (k:Int)] w fun e w'=>∃x' y',bw (x,y) k=(x',y')/\e=.returned (.agg #[.int .u64 (x':Int),.int .u64 (y':Int)])/\Below w.heap.size w w':=
 (with_any (x,y) k w hs hk).mono fun _ _ ⟨h1,h2⟩=>⟨_,_,rfl,h1,h2⟩
theorem flowOf_any(g cap cc:Nat)(ca:Option Addr)(code:List (Int×Int))(d:List Int)(w:World)(HJ:JOk code)(hd:d.length=code.length)(hcode:bn w 0 ca code)(hH:Ht w g cap d)(h1c:0<code.length) :
  Calls Tryz.prog 162 #[.slice ca code.length cc,.slice (some ⟨g,0,none⟩) code.length code.length] w fun e w'=>e=.returned (fv (flowB (jl code d code.length)))/\Below w.heap.size w w':=by
 refine (callsIn_wide (n:=4)).1 ?_;refine callsIn_of_wp_marks Tryz.func162 rfl trivial ?_ rfl;simp only[Tryz.ntmps162,List.size_toArray,List.length_cons,List.length_nil,Nat.reduceAdd,Nat.reduceSub,Array.replicate_succ,Array.replicate_zero,List.push_toArray,List.append_toArray,List.nil_append,List.cons_append]
 gi_wp2
 refine⟨trivial,?_⟩;refine (callsIn_wide.2 (with_zero _)).mono ?_;rintro e w1 ⟨rfl,hb1⟩;gi_wp2
 refine⟨trivial,?_⟩;refine (callsIn_wide.2 (jumps_any _ _ _ _ _ _ _)).mono ?_;rintro e w2 ⟨rfl,rfl⟩;gi_wp2
 have hR1:=ah (al w #[.int .u64 0,.int .u64 0,.int .u64 0,.int .u64 0] 248) hb1;have hz1:w.heap.size<w1.heap.size:=ay hR1;have hB1:Below w.heap.size w w1:=(b_r.alloc n_l _).trans (hb1.mono (by simp));obtain⟨W0,hW0⟩:∃W0,((w1.alloc (.cells #[.int .u64 1,.int .u64 0,.int .u64 0,.int .u64 0] 248)).alloc (.cells #[.slice ca code.length cc] 158)).alloc (.cells #[.slice (some ⟨g,0,none⟩) code.length code.length] 50)=W0:=⟨_,rfl⟩;have hsz:W0.heap.size=w1.heap.size+3:=by rw[<-hW0];simp
 have hB10:Below w1.heap.size w1 W0:=by rw[<-hW0];exact ((b_r.alloc n_l _).alloc (by simp) _).alloc (by simp;omega) _
 have hB0:Below w.heap.size w W0:=hB1.trans (hB10.mono hB1.size);have hR0:=ah hR1 hB10;have hF0:W0.heap[w1.heap.size]?=some (.cells (fK (flowB [])) 248 (0,0)):=by rw[<-hW0];exact au (au (al _ _ _) _) _
 have hC0:W0.heap[w1.heap.size+1]?=some (.cells #[.slice ca code.length cc] 158 (0,0)):=by
  have:=au (al (w1.alloc (.cells #[.int .u64 1,.int .u64 0,.int .u64 0,.int .u64 0] 248)) #[.slice ca code.length cc] 158) (.cells #[.slice (some ⟨g,0,none⟩) code.length code.length] 50);rw[hW0,World.size_alloc] at this;exact this
 have hH0:W0.heap[w1.heap.size+1+1]?=some (.cells #[.slice (some ⟨g,0,none⟩) code.length code.length] 50 (0,0)):=by
  have:=al ((w1.alloc (.cells #[.int .u64 1,.int .u64 0,.int .u64 0,.int .u64 0] 248)).alloc (.cells #[.slice ca code.length cc] 158)) #[.slice (some ⟨g,0,none⟩) code.length code.length] 50;rw[hW0,World.size_alloc,World.size_alloc] at this;exact this
 rw[hW0];clear hW0 hb1 hR1;have hclt:∀b off,ca=some ⟨b,off,none⟩->b<w.heap.size:=fun b off e=>by
  obtain⟨b',off',e',-,hc,-⟩:=hcode 0 h1c;rw[e] at e';cases e';exact World.block_lt_of_cell? w _ hc
 refine wpIn_rangeFunc_ownH (α:=Jp) rfl (by omega) (gf:=265) (lb:=#[.pointer (some ⟨w1.heap.size+1,0,none⟩),.pointer (some ⟨w1.heap.size+1+1,0,none⟩)]) rfl trivial (enters_of Tryz.func265 (by kernel_rfl) rfl)
  (jumps_stops 3 (by omega) (w1.heap.size+1) (w1.heap.size+1+1) w.heap.size g cap cc ca code d HJ hd W0 ((ae hC0 0).trans rfl) (by omega) hH0 (hcode.mono hB0) hclt (hH.mono hB0) hH.lt (by omega)) Kq.trans (Kq.put (by omega) (by omega)) b_r (fun _=>rfl)
  (fun pre W=>(W.heap[w1.heap.size]?=some (.cells (fK (flowB pre)) 248 (0,0))/\W.heap[w.heap.size]?=some (.cells #[.int .u64 0,.int .u64 0,.int .u64 0,.int .u64 0] 248 (0,0)))/\Below w.heap.size w W)
  (fun _ _ _=>False)
  (OwnFrom.and (OwnFrom.and (Own.from (fd _ _ _) _) (Own.from (fd _ _ (fun _=>#[.int .u64 0,.int .u64 0,.int .u64 0,.int .u64 0])) _)) (ownFrom_below n_l (by omega)))
  (fun _ _ _ _ _ hs _ _=>hs)
  ⟨⟨hF0,hR0⟩,hB0⟩
  (fun x a' W=>∃Bx,w1.heap.size<Bx/\W.heap[Bx]?=some (.cells #[.int .i64 x.op,.int .i64 (x.a:Int)] 263 (0,0))/\a'={ tmps:=#[.slice ca code.length cc,.slice (some ⟨g,0,none⟩) code.length code.length,undef,undef,.pointer (some ⟨w.heap.size,0,none⟩),.pointer (some ⟨w1.heap.size,0,none⟩),.int .i64 (x.at':Int),.pointer (some ⟨Bx,0,none⟩),.agg #[.int .u64 0,.int .u64 0],.agg #[.int .u64 1,.int .u64 0],.agg #[.int .u64 1,.int .u64 0,.int .u64 0,.int .u64 0],.slice ca code.length cc,.slice (some ⟨g,0,none⟩) code.length code.length,.func (.func 265) #[] #[.pointer (some ⟨w1.heap.size+1,0,none⟩),.pointer (some ⟨w1.heap.size+1+1,0,none⟩)],.int .i64 (x.at':Int),.agg #[.int .i64 x.op,.int .i64 (x.a:Int)],undef,undef,undef,undef,undef,undef,undef,undef,undef,undef,undef,undef,undef,undef,undef,undef,undef,undef,undef,undef,undef,undef,undef,undef,undef,undef],defers:=[] })
  (fun x a' _ X Y row hs hg hr=>by obtain⟨Bx,h1,h2,h3⟩:=hs;exact⟨Bx,h1,fd Bx 263 (fun (_:Unit)=>#[.int .i64 x.op,.int .i64 (x.a:Int)]) () X Y row h2 hg (fun r e=>(hr r e).2),h3⟩)
  ?assign ?body ?done ?stop
 case assign=>
  rintro l pre x W K ⟨⟨hF,hR⟩,hB⟩ hK;simp only[encJ]
  gi_wp2
  exact hK _ _ ((KeepsOthers.alloc _ _).from _) ⟨(Below.refl _ W).alloc hB.size _,fun _ ho=>au ho _⟩ ⟨⟨au hF _,au hR _⟩,hB.alloc hB.size _⟩ ⟨W.heap.size,ay hF,al W _ _,rfl⟩
 case body=>
  rintro l pre x a' W hl - ⟨⟨hF,hR⟩,hB⟩ ⟨Bx,hBx,hX,rfl⟩ -;clear hl hF0 hR0 hC0 hH0 hB0 hB10 hB1;obtain⟨⟨⟨a,b⟩,⟨c,e⟩⟩,hst⟩:∃st,st=flowB pre:=⟨_,rfl⟩;have hok:=flowB_ok pre;rw[<-hst] at hF hok;have HST:Hid (flowB (pre++[x])=dt ((a,b),(c,e)) x):=by show _=_;rw[flowB_snoc,<-hst]
  clear hst;have S0:FlS w W w.heap.size W0.heap.size w1.heap.size w.heap.size (w1.heap.size+1+1) Bx x.op (x.a:Int) W ((a,b),(c,e)):=⟨hF,hR,hX,⟨Below.refl _ _,fun _ h=>h⟩,KeepsFrom.refl _ _,hB⟩;have n1:w.heap.size<=w1.heap.size:=Nat.le_of_lt hz1;have n2:w.heap.size≠w1.heap.size:=Nat.ne_of_lt hz1;have n3:w1.heap.size+1+1≠w1.heap.size:=by omega
  have n4:Bx≠w1.heap.size:=by omega
  have HN:Hid (w.heap.size<=w1.heap.size/\w.heap.size≠w1.heap.size/\w1.heap.size+1+1≠w1.heap.size/\Bx≠w1.heap.size):=⟨n1,n2,n3,n4⟩;clear n1 n2 n3 n4 hF hR hX hB hBx hz1 hsz;have hx1:=x.h1;have hx2:=x.h2;have HX12:Hid (x.at'+1<128/\x.a<128):=⟨hx1,hx2⟩;clear hx1 hx2;have c0:=ae (show W.heap[w1.heap.size]?=some (.cells #[.int .u64 (a:Int),.int .u64 (b:Int),.int .u64 (c:Int),.int .u64 (e:Int)] 248 (0,0)) from S0.fl)
  have x0:=ae S0.x;gi_wp2
  refine⟨trivial,?_⟩;refine (CallsIn.inRound l (callsIn_wide.2 (fw a b x.a _ hok.1 HX12.out.2))).mono ?_;rintro e2 w2 ⟨a2,b2,hw2,rfl,kb2⟩;have HW2:Hid (bw (a,b) x.a=(a2,b2)):=hw2;have ok2:bok (a2,b2):=by rw[<-hw2];exact gX hok.1 HX12.out.2
  have S1:=S0.call HN.out.1 kb2;have S2:=S1.lo HN.out.1 HN.out.2.1 HN.out.2.2.1 HN.out.2.2.2 a2 b2;clear c0 x0 hw2 kb2 S0;have c1:=ae (show w2.heap[w1.heap.size]?=some (.cells #[.int .u64 (a:Int),.int .u64 (b:Int),.int .u64 (c:Int),.int .u64 (e:Int)] 248 (0,0)) from S1.fl)
  have f1:=aq S1.fl;have x2:=ae S2.x;have c2:=ae (show ((w2.setCell ⟨w1.heap.size,0,none⟩ (.int .u64 (a2:Int))).setCell ⟨w1.heap.size,1,none⟩ (.int .u64 (b2:Int))).heap[w1.heap.size]?=some (.cells #[.int .u64 (a2:Int),.int .u64 (b2:Int),.int .u64 (c:Int),.int .u64 (e:Int)] 248 (0,0)) from S2.fl)
  by_cases hop:x.op=17
  ·have HOP:Hid (x.op=17):=hop;by_cases hle:x.a<=x.at'
   ·have HLE:Hid (x.a<=x.at'):=hle;gi_wp2
    refine⟨trivial,?_⟩;refine (CallsIn.inRound l (callsIn_wide.2 (fw c e x.a _ hok.2 HX12.out.2))).mono ?_;rintro e9 w9 ⟨c9,d9,hw9,rfl,kb9⟩;have HW9:Hid (bw (c,e) x.a=(c9,d9)):=hw9;have S8:=S2.call HN.out.1 kb9;have S9:=S8.hi HN.out.1 HN.out.2.1 HN.out.2.2.1 HN.out.2.2.2 c9 d9;have c8:=ae (show w9.heap[w1.heap.size]?=some (.cells #[.int .u64 (a2:Int),.int .u64 (b2:Int),.int .u64 (c:Int),.int .u64 (e:Int)] 248 (0,0)) from S8.fl)
    have f8:=aq S8.fl;clear hw9 kb9;gi_wp2
    refine⟨S9.kf,S9.kq,⟨?_,S9.res⟩,S9.below⟩;rw[HST.out];have hfl:=S9.fl;have e9:dt ((a,b),(c,e)) x=((a2,b2),(c9,d9)):=by
     unfold dt;rw[if_pos HLE.out,HW9.out,HW2.out,if_pos HOP.out]
    rw[e9];exact hfl
   ·have HLE:Hid (¬x.a<=x.at'):=hle;gi_wp2
    refine⟨S2.kf,S2.kq,⟨?_,S2.res⟩,S2.below⟩;rw[HST.out];have hfl:=S2.fl;have e9:dt ((a,b),(c,e)) x=((a2,b2),(c,e)):=by
     unfold dt;rw[if_neg HLE.out,HW2.out,if_pos HOP.out]
    rw[e9];exact hfl
  have HOP:Hid (¬x.op=17):=hop;have hop':(x.op != 17)=true:=by simpa using hop
  have hadd:IntKind.i64.wrap ((x.at':Int)+1)=(x.at':Int)+1:=by rw[IntKind.wrap_i64];have:=HX12.out.1;omega
  gi_wp2
  refine⟨trivial,?_⟩;refine (CallsIn.inRound l (callsIn_wide.2 (fw a2 b2 (x.at'+1) _ ok2 HX12.out.1))).mono ?_;rintro e4 w4 ⟨a4,b4,hw4,rfl,kb4⟩;have HW4:Hid (bw (a2,b2) (x.at'+1)=(a4,b4)):=hw4;have S3:=S2.call HN.out.1 kb4;have S4:=S3.lo HN.out.1 HN.out.2.1 HN.out.2.2.1 HN.out.2.2.2 a4 b4;clear c1 f1 x2 c2 hw4 kb4 S1 S2;have c1:=ae (show w4.heap[w1.heap.size]?=some (.cells #[.int .u64 (a2:Int),.int .u64 (b2:Int),.int .u64 (c:Int),.int .u64 (e:Int)] 248 (0,0)) from S3.fl)
  have f1:=aq S3.fl;have x2:=ae S4.x;have c2:=ae (show ((w4.setCell ⟨w1.heap.size,0,none⟩ (.int .u64 (a4:Int))).setCell ⟨w1.heap.size,1,none⟩ (.int .u64 (b4:Int))).heap[w1.heap.size]?=some (.cells #[.int .u64 (a4:Int),.int .u64 (b4:Int),.int .u64 (c:Int),.int .u64 (e:Int)] 248 (0,0)) from S4.fl)
  by_cases hle:x.a<=x.at'
  ·have HLE:Hid (x.a<=x.at'):=hle;gi_wp2
   refine⟨trivial,?_⟩;refine (CallsIn.inRound l (callsIn_wide.2 (fw c e x.a _ hok.2 HX12.out.2))).mono ?_;rintro e9 w9 ⟨c9,d9,hw9,rfl,kb9⟩;have HW9:Hid (bw (c,e) x.a=(c9,d9)):=hw9;have S8:=S4.call HN.out.1 kb9;have S9:=S8.hi HN.out.1 HN.out.2.1 HN.out.2.2.1 HN.out.2.2.2 c9 d9;have c8:=ae (show w9.heap[w1.heap.size]?=some (.cells #[.int .u64 (a4:Int),.int .u64 (b4:Int),.int .u64 (c:Int),.int .u64 (e:Int)] 248 (0,0)) from S8.fl)
   have f8:=aq S8.fl;clear hw9 kb9;gi_wp2
   refine⟨S9.kf,S9.kq,⟨?_,S9.res⟩,S9.below⟩;rw[HST.out];have hfl:=S9.fl;have e9:dt ((a,b),(c,e)) x=((a4,b4),(c9,d9)):=by
    unfold dt;rw[if_pos HLE.out,HW9.out,HW2.out,if_neg HOP.out,HW4.out]
   rw[e9];exact hfl
  ·have HLE:Hid (¬x.a<=x.at'):=hle;gi_wp2
   refine⟨S4.kf,S4.kq,⟨?_,S4.res⟩,S4.below⟩;rw[HST.out];have hfl:=S4.fl;have e9:dt ((a,b),(c,e)) x=((a4,b4),(c,e)):=by
    unfold dt;rw[if_neg HLE.out,HW2.out,if_neg HOP.out,HW4.out]
   rw[e9];exact hfl
 case done=>
  rintro D ys W hD rfl ⟨⟨hF,hR⟩,hB⟩ hK;clear hF0 hR0 hC0 hH0 hB0 hB10 hB1;obtain⟨⟨⟨a,b⟩,⟨c,e⟩⟩,hst⟩:∃st,st=flowB (jl code d code.length):=⟨_,rfl⟩;rw[<-hst] at hF;have HE:Hid (((a,b),(c,e))=flowB (jl code d code.length)):=hst;clear hst;have c0:=ae (show W.heap[w1.heap.size]?=some (.cells #[.int .u64 (a:Int),.int .u64 (b:Int),.int .u64 (c:Int),.int .u64 (e:Int)] 248 (0,0)) from hF)
  have r0:=ae hR;have r1:=aq hR;have hDn:D≠w.heap.size:=by omega
  have hRD:∀(X:World),X.heap[D]?=some (.deferred (some []))->∀i v,(X.setCell ⟨w.heap.size,i,none⟩ v).heap[D]?=some (.deferred (some [])):=fun X h i v=>by rw[Below.heap_setCell _ _ _ _ hDn];exact h
  have HK4:=hRD _ (hRD _ (hRD _ (hRD _ hK 0 (.int .u64 (a:Int))) 1 (.int .u64 (b:Int))) 2 (.int .u64 (c:Int))) 3 (.int .u64 (e:Int));have HR4:=ak (i:=3) (ak (i:=2) (ak (i:=1) (ak (i:=0) hR (.int .u64 (a:Int))) (.int .u64 (b:Int))) (.int .u64 (c:Int))) (.int .u64 (e:Int));have hB4:=(((hB.setCell (p:=⟨w.heap.size,0,none⟩) n_l (.int .u64 (a:Int))).setCell (p:=⟨w.heap.size,1,none⟩) n_l (.int .u64 (b:Int))).setCell (p:=⟨w.heap.size,2,none⟩) n_l (.int .u64 (c:Int))).setCell (p:=⟨w.heap.size,3,none⟩) n_l (.int .u64 (e:Int));simp at HR4
  have hwD:w.heap.size<=D:=by omega
  clear hRD hD;gi_wp2
  generalize ((((W.setCell ⟨w.heap.size,0,none⟩ (.int .u64 (a:Int))).setCell ⟨w.heap.size,1,none⟩ (.int .u64 (b:Int))).setCell ⟨w.heap.size,2,none⟩ (.int .u64 (c:Int))).setCell ⟨w.heap.size,3,none⟩ (.int .u64 (e:Int)))=W4 at HK4 HR4 hB4 ⊢
  have rr:=ae ((World.putObj_heap_other (o:=.deferred none) (w:=W4) (Ne.symm hDn)).trans HR4);refine⟨by simp,.inl ⟨_,_,rfl,run_takeDeferred HK4,?_⟩⟩;refine⟨.agg #[.int .u64 (a:Int),.int .u64 (b:Int),.int .u64 (c:Int),.int .u64 (e:Int)],by simp[results,Tryz.results162,go_sem,rr],?_,hB4.trans (belowK_b (w:=w) n_l W4 D _ _ hwD HK4 rfl rfl)⟩;rw[<-HE.out];rfl
 case stop=>
  rintro D c pre W _ _ h _;exact h.elim
end Go.Proofs.YtbjmgmmekmfjhaaGreatDoor
