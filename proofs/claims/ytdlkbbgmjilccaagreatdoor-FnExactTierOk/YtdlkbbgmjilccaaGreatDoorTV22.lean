/- TV22 -/
import Derived.Test.YtdlkbbgmjilccaaGreatDoorTV21
import Derived.RangeFuncBox
set_option maxHeartbeats 32000000
set_option maxRecDepth 100000
namespace Go.Proofs.YtdlkbbgmjilccaaGreatDoor
open Go.RowKit Go.Shelf
attribute [local go_sem] Oper.semAt_some
def In (s:Nat×Nat)(j:Nat):Prop:=bhas s j=true
theorem lst_skip{P:Nat->Prop}{a:Nat}:∀(n:Nat),(∀j,a<=j->j<a+n->¬P j)->lst P (a+n)=lst P a
 | 0,_=>rfl
 | n+1,h=>by
  have h1:=lst_skip n (fun j h1 h2=>h j h1 (by omega));rw[<-Nat.add_assoc,fo (h _ (by omega) (by omega)),h1]
theorem fM{P:Nat->Prop}{a b:Nat}(hab:a<=b)(h:∀j,a<=j->j<b->¬P j):lst P b=lst P a:=by
 have:=lst_skip (P:=P) (a:=a) (b-a) (fun j h1 h2=>h j h1 (by omega));rwa [show a+(b-a)=b by omega] at this
def cx (s:Nat×Nat)(i:Nat):Nat:=if i=0 then s.1 else s.2
theorem fF{s:Nat×Nat}{i j:Nat}(hi:i<2)(hj:j<64):In s (64*i+j)↔(cx s i).testBit j=true:=by
 unfold In bhas cx;rcases (show i=0\/i=1 by omega) with rfl | rfl
 ·rw[if_pos (by omega),if_pos rfl,Nat.mul_zero,Nat.zero_add]
 ·rw[if_neg (by omega),if_neg (by omega),show 64*1+j-64=j by omega]
def From (x y p:Nat):Prop:=∀j,y.testBit j=(decide (p<=j) && x.testBit j)
theorem From.done{s:Nat×Nat}{i p:Nat}(h:From (cx s i) 0 p)(hi:i<2)(hp:p<=64):lst (In s) (64*(i+1))=lst (In s) (64*i+p):=
 fM (by omega) (fun j h1 h2 hin=>by
  obtain⟨q,rfl⟩:∃q,j=64*i+q:=⟨j-64*i,by omega⟩;have h3:=(fF hi (by omega)).1 hin;have h4:=h q;rw[Nat.zero_testBit,h3,decide_eq_true (by omega)] at h4
  cases h4)
theorem From.step{s:Nat×Nat}{i p k m:Nat}(h:From (cx s i) (2 ^ (k+1)*m+2 ^ k) p)(hi:i<2)(hk:k<64) :
  lst (In s) (64*i+(k+1))=lst (In s) (64*i+p)++[64*i+k]/\From (cx s i) ((2 ^ (k+1)*m+2 ^ k) &&& (2 ^ (k+1)*m+2 ^ k-1)) (k+1):=by
 have hk1:=h k;rw[eh,if_pos (by omega),decide_eq_true rfl] at hk1;have hx:(decide (p<=k) && (cx s i).testBit k)=true:=hk1.symm;rw[Bool.and_eq_true,decide_eq_true_eq] at hx;refine⟨?_,fun j=>?_⟩
 ·rw[show 64*i+(k+1)=64*i+k+1 by omega,dS ((fF hi hk).2 hx.2)]
  congr 1
  refine fM (by omega) (fun j h1 h2 hin=>?_);obtain⟨q,rfl⟩:∃q,j=64*i+q:=⟨j-64*i,by omega⟩;have h3:=(fF hi (by omega)).1 hin;have h4:=h q;rw[eh,if_pos (by omega),decide_eq_false (show ¬k=q by omega),h3,decide_eq_true (show p<=q by omega)] at h4
  cases h4
 ·rw[clear_low,h j];by_cases hj:k<j
  ·rw[decide_eq_true hj,decide_eq_true (show p<=j by omega),decide_eq_true (show k+1<=j by omega)]
   simp
  ·rw[decide_eq_false hj,decide_eq_false (show ¬k+1<=j by omega)]
   simp
theorem wrap_less{y:Nat}(h0:y≠0)(h:y<18446744073709551616):IntKind.u64.wrap ((y:Int)-1)=((y-1:Nat):Int):=by
 rw[IntKind.wrap_u64];omega
theorem and_less{y:Nat}(h0:y≠0):y &&& (y-1)<y:=by
 have:y &&& (y-1)<=y-1:=Nat.and_le_right;omega
theorem word_facts{s:Nat×Nat}{i p y:Nat}(h:From (cx s i) y p)(hi:i<2)(h0:y≠0)(hy:y<2 ^ 64) :
  ∃k m y1 y2:Nat,k<64/\y=2 ^ (k+1)*m+2 ^ k/\IntKind.u64.wrap ((y:Int)-1)=(y1:Int)/\bits .and .u64 (y:Int) (y1:Int)=(y2:Int)/\y2<2 ^ 64/\y2<y /\
   lst (In s) (64*i+(k+1))=lst (In s) (64*i+p)++[64*i+k]/\From (cx s i) y2 (k+1):=by
 obtain⟨k,m,rfl⟩:=low_form y h0;have hk:=form_lt hy;have hs:=h.step hi hk;refine⟨k,m,_,_,hk,rfl,wrap_less h0 hy,bits_and hy (Nat.lt_of_le_of_lt (Nat.sub_le _ _) hy),?_,and_less h0,hs.1,hs.2⟩;exact Nat.lt_trans (and_less h0) hy
theorem all1_in(n:Nat)(hn:2<=n)(l Bs n₀:Nat)(s:Nat×Nat)(hs:bok s)(J Jx:List Nat->World->Prop)
  (hY:∀pre x W,J pre W->pre.length<128->YieldAt Fence.wide (n-1) Tryz.prog l #[.int .i64 ((x:Nat):Int)] W fun e W'=>
   (e=.returned (.bool true)/\J (pre++[x]) W'/\Below n₀ W W')\/(e=.returned (.bool false)/\Jx (pre++[x]) W'))
  (W:World)(hBs:W.heap[Bs]?=some (.cells #[.int .u64 (s.1:Int),.int .u64 (s.2:Int)] 253 (0,0)))(hD:DB W)(h00:1<n₀)(h0:J [] W) :
  CallsIn Fence.wide n Tryz.prog 208 #[.func (.yield l) #[] #[],.pointer (some ⟨Bs,0,none⟩)] W fun e W'=>(∃v,e=.returned v) /\
   ((∃ys,ys=lst (In s) 128/\J ys W')\/(∃pre,True/\Jx pre W')):=by
 have hDB:∀W',Below n₀ W W'->DB W':=fun W' hb i hi=>(hb.cell (p:=⟨1,i,none⟩) h00).trans (hD i hi)
 have HDB:Hid (∀W',Below n₀ W W'->DB W'):=hDB;have c0:=aa hBs;clear hDB hD;refine callsIn_of_wp Tryz.func208 rfl trivial ?_ rfl;simp only[Tryz.ntmps208,List.size_toArray,List.length_cons,List.length_nil,Nat.reduceAdd,Nat.reduceSub,Array.replicate_succ,Array.replicate_zero,List.push_toArray,List.append_toArray,List.nil_append,List.cons_append]
 gi_wp2
 clear c0 hBs;have HS:Hid (bok s):=hs;clear hs
 gi_loopw [6] (fun i wr=>∃k:Nat,k<=2/\i=.int .i64 k/\J (lst (In s) (64*k)) wr/\Below n₀ W wr)
  (fun i _=>2-(intOf i).toNat)
 case atStart=>exact⟨0,by omega,rfl,h0,Below.refl _ _⟩
 case round=>
  obtain⟨i,hi,rfl,hJs,hnx⟩:=hrel;obtain⟨wo,rfl⟩:∃wo,wo=wr:=⟨_,rfl⟩;by_cases hi2:i<2
  case neg=>
   obtain rfl:i=2:=by omega
   gi_wp2
   go_end0
   exact⟨⟨_,rfl⟩,.inl ⟨_,rfl,hJs⟩⟩
  rcases (show i=0\/i=1 by omega) with rfl | rfl
  ·have HW:Hid (cx s 0=s.1):=rfl;have hF0:From (cx s 0) s.1 0:=fun j=>by rw[HW.out];simp
   simp only[show ((0:Nat):Int)=0 from rfl]
   have hix:(Instr.index 253 (.agg #[.int .u64 (s.1:Int),.int .u64 (s.2:Int)]) (.int .i64 0)).run Tryz.prog wo=.ok (.int .u64 (s.1:Int)) wo:=by kernel_rfl
   gi_wp2
   gi_loopw [4] (fun v wq=>∃(y p:Nat),v=.int .u64 (y:Int)/\Hid (y<2 ^ 64)/\p<=64/\From (cx s 0) y p/\J (lst (In s) (64*0+p)) wq/\Below n₀ W wq) (fun v _=>(intOf v).toNat)
   case atStart=>exact⟨s.1,0,rfl,HS.out.1,by omega,hF0,hJs,hnx⟩
   case round=>
    obtain⟨y,p,rfl,hy,hp,hF,hJ1,hb1⟩:=hrel;obtain⟨wi,rfl⟩:∃wi,wi=wr:=⟨_,rfl⟩;clear hF0 hJs hnx;by_cases hy0:y=0
    ·subst hy0;have HDN:Hid (lst (In s) (64*(0+1))=lst (In s) (64*0+p)):=hF.done (by omega) hp;gi_wp2
     go_roundw
     case rel=>exact⟨0+1,by omega,by go_num,by rw[HDN.out];exact hJ1,hb1⟩
     case measure=>simp[intOf]
    obtain⟨k,m,y1,y2,hk,hform,hsub,hand,hy2,hlt,hlst,hF2⟩:=word_facts hF (by omega) hy0 hy.out;have HFM:Hid (y=2 ^ (k+1)*m+2 ^ k):=hform;have HY2:Hid (y2<2 ^ 64):=hy2;have HL:Hid (lst (In s) (64*0+(k+1))=lst (In s) (64*0+p)++[64*0+k]):=hlst;have hll:=et (In s) (64*0+p);have hln:(lst (In s) (64*0+p)).length<128:=by
     have h1:=et (In s) (64*0+(k+1));rw[hlst,List.length_append] at h1;simp only[List.length_cons,List.length_nil] at h1
     omega
    obtain⟨fn,tmps,assign,body,hyy,hR⟩:=hY _ (64*0+k) wi hJ1 hln;have hyz:((64*0+k:Nat):Int)=(k:Int):=by omega
    rw[hyz] at hyy;have hy0':((y:Int) != 0)=true:=by
     have h:¬(y:Int)=0:=by omega
     simpa using h
    clear hform hy2 hlst hln hll hyz;gi_wp2
    refine⟨trivial,fun _=>by omega,?_⟩;refine (callsIn_wide.2 (tz_any y k m _ HFM.out hy.out (HDB.out _ hb1))).mono ?_;rintro e w1 ⟨rfl,rfl⟩;gi_wp2
    refine⟨fun _=>by omega,?_⟩;refine hR.mono ?_;rintro e W3 (⟨rfl,hJ3,hk3⟩ | ⟨rfl,hJx3⟩)
    ·gi_wp2
     go_roundw
     case rel=>exact⟨y2,k+1,rfl,HY2.out,by omega,hF2,by rw[HL.out];exact hJ3,hb1.trans hk3⟩
     case measure=>simpa[intOf] using hlt
    ·gi_wp2
     refine bodyPost_ret (results_none rfl _ _ _) rfl ?_;exact⟨⟨_,rfl⟩,.inr ⟨_,trivial,hJx3⟩⟩
  ·have HW:Hid (cx s 1=s.2):=rfl;have hF0:From (cx s 1) s.2 0:=fun j=>by rw[HW.out];simp
   simp only[show ((1:Nat):Int)=1 from rfl]
   have hix:(Instr.index 253 (.agg #[.int .u64 (s.1:Int),.int .u64 (s.2:Int)]) (.int .i64 1)).run Tryz.prog wo=.ok (.int .u64 (s.2:Int)) wo:=by kernel_rfl
   gi_wp2
   gi_loopw [4] (fun v wq=>∃(y p:Nat),v=.int .u64 (y:Int)/\Hid (y<2 ^ 64)/\p<=64/\From (cx s 1) y p/\J (lst (In s) (64*1+p)) wq/\Below n₀ W wq) (fun v _=>(intOf v).toNat)
   case atStart=>exact⟨s.2,0,rfl,HS.out.2,by omega,hF0,hJs,hnx⟩
   case round=>
    obtain⟨y,p,rfl,hy,hp,hF,hJ1,hb1⟩:=hrel;obtain⟨wi,rfl⟩:∃wi,wi=wr:=⟨_,rfl⟩;clear hF0 hJs hnx;by_cases hy0:y=0
    ·subst hy0;have HDN:Hid (lst (In s) (64*(1+1))=lst (In s) (64*1+p)):=hF.done (by omega) hp;gi_wp2
     go_roundw
     case rel=>exact⟨1+1,by omega,by go_num,by rw[HDN.out];exact hJ1,hb1⟩
     case measure=>simp[intOf]
    obtain⟨k,m,y1,y2,hk,hform,hsub,hand,hy2,hlt,hlst,hF2⟩:=word_facts hF (by omega) hy0 hy.out;have HFM:Hid (y=2 ^ (k+1)*m+2 ^ k):=hform;have HY2:Hid (y2<2 ^ 64):=hy2;have HL:Hid (lst (In s) (64*1+(k+1))=lst (In s) (64*1+p)++[64*1+k]):=hlst;have hll:=et (In s) (64*1+p);have hln:(lst (In s) (64*1+p)).length<128:=by
     have h1:=et (In s) (64*1+(k+1));rw[hlst,List.length_append] at h1;simp only[List.length_cons,List.length_nil] at h1
     omega
    obtain⟨fn,tmps,assign,body,hyy,hR⟩:=hY _ (64*1+k) wi hJ1 hln;have hyz:((64*1+k:Nat):Int)=64+(k:Int):=by omega
    rw[hyz] at hyy;have hy0':((y:Int) != 0)=true:=by
     have h:¬(y:Int)=0:=by omega
     simpa using h
    clear hform hy2 hlst hln hll hyz;gi_wp2
    refine⟨trivial,fun _=>by omega,?_⟩;refine (callsIn_wide.2 (tz_any y k m _ HFM.out hy.out (HDB.out _ hb1))).mono ?_;rintro e w1 ⟨rfl,rfl⟩;gi_wp2
    refine⟨fun _=>by omega,?_⟩;refine hR.mono ?_;rintro e W3 (⟨rfl,hJ3,hk3⟩ | ⟨rfl,hJx3⟩)
    ·gi_wp2
     go_roundw
     case rel=>exact⟨y2,k+1,rfl,HY2.out,by omega,hF2,by rw[HL.out];exact hJ3,hb1.trans hk3⟩
     case measure=>simpa[intOf] using hlt
    ·gi_wp2
     refine bodyPost_ret (results_none rfl _ _ _) rfl ?_;exact⟨⟨_,rfl⟩,.inr ⟨_,trivial,hJx3⟩⟩
theorem all_any(x y:Int)(w:World) :
  Calls Tryz.prog 186 #[.agg #[.int .u64 x,.int .u64 y]] w fun e w'=>e=.returned (.func (.func 208) #[] #[.pointer (some ⟨w.heap.size,0,none⟩)])/\w'=w.alloc (.cells #[.int .u64 x,.int .u64 y] 253):=by
 go_enter Tryz.func186,Tryz.ntmps186
 go_wp2;go_ret
 exact⟨rfl,rfl⟩
theorem all_stops(n:Nat)(hn:2<=n)(Bs n₀:Nat)(s:Nat×Nat)(hs:bok s)(w:World)(hBs:w.heap[Bs]?=some (.cells #[.int .u64 (s.1:Int),.int .u64 (s.2:Int)] 253 (0,0)))(hD:DB w)(h00:1<n₀) :
  SeqStopsK Fence.wide n Tryz.prog 208 #[.pointer (some ⟨Bs,0,none⟩)] (fun x:Nat=>#[Value.int .i64 (x:Int)]) (Below n₀) (fun ys=>ys=lst (In s) 128) (fun _=>True) 128 w:=fun l J Jx W hW _ _ hY h0=>
 all1_in n hn l Bs n₀ s hs J Jx hY W (ab hBs hW) (hD.mono hW) h00 h0
attribute [local go_sem] Oper.semAt_some
theorem mapI(l:List Nat):(l.map fun (j:Nat)=>(j:Int)).map (Value.int .i64)=l.map fun (j:Nat)=>Value.int .i64 (j:Int):=by simp
theorem told_any(x y:Nat)(w:World)(hs:bok (x,y))(hD:DB w) :
  Calls Tryz.prog 160 #[.agg #[.int .u64 (x:Int),.int .u64 (y:Int)]] w fun e w'=>∃v,e=.returned v/\DSl w' w.heap.size v (lstI (In (x,y)) 128)/\Below w.heap.size w w':=by
 have h00:1<w.heap.size:=World.block_lt_of_cell? w _ (hD 0 (by decide));obtain⟨i0,hi,hz0,hz1,hz2⟩:=info_parts info3;refine (callsIn_wide (n:=4)).1 ?_;refine callsIn_of_wp_marks Tryz.func160 rfl trivial ?_ rfl;simp only[Tryz.ntmps160,List.size_toArray,List.length_cons,List.length_nil,Nat.reduceAdd,Nat.reduceSub,Array.replicate_succ,Array.replicate_zero,List.push_toArray,List.append_toArray,List.nil_append,List.cons_append]
 gi_wp2
 refine⟨trivial,?_⟩;refine (callsIn_wide.2 (all_any _ _ _)).mono ?_;rintro e w2 ⟨rfl,rfl⟩;gi_wp2
 have bO:=(Boxed.new (w.alloc (.cells #[.int .u64 (x:Int),.int .u64 (y:Int)] 253)) 148 (.slice none 0 0)).alloc (.cells #[.int .u64 (x:Int),.int .u64 (y:Int)] 253);have hN:=ah ((w.alloc (.cells #[.int .u64 (x:Int),.int .u64 (y:Int)] 253)).alloc (.cells #[.slice none 0 0] 148)) #[.int .u64 (x:Int),.int .u64 (y:Int)] 253;simp only[World.size_alloc] at bO hN
 have hB0:Below w.heap.size w (((w.alloc (.cells #[.int .u64 (x:Int),.int .u64 (y:Int)] 253)).alloc (.cells #[.slice none 0 0] 148)).alloc (.cells #[.int .u64 (x:Int),.int .u64 (y:Int)] 253)):=(((Below.refl _ w).alloc nL _).alloc (by simp) _).alloc (by simp;omega) _;obtain⟨W0,hW0⟩:∃W0,((w.alloc (.cells #[.int .u64 (x:Int),.int .u64 (y:Int)] 253)).alloc (.cells #[.slice none 0 0] 148)).alloc (.cells #[.int .u64 (x:Int),.int .u64 (y:Int)] 253)=W0:=⟨_,rfl⟩;have hsz:W0.heap.size=w.heap.size+3:=by rw[<-hW0];simp
 rw[hW0] at bO hN hB0 ⊢;clear hW0;have hD0:=hD.mono hB0
 refine wpIn_rangeFunc_ownG (α:=Nat) rfl (by omega) (gf:=208) (lb:=#[.pointer (some ⟨w.heap.size+1+1,0,none⟩)]) rfl trivial (enters_of Tryz.func208 (by kernel_rfl) rfl)
  (all_stops 3 (by omega) (w.heap.size+1+1) w.heap.size (x,y) hs W0 hN hD0 h00) belowK_t (belowK_b (by omega)) gM (fun _=>rfl)
  (fun pre W=>(∃v,Boxed W (w.heap.size+1) 148 v/\W.ownsRow w.heap.size 3 1 v pre.length (pre.map fun (j:Nat)=>Value.int .i64 (j:Int))/\True)/\Below w.heap.size w W)
  (fun _ _ _=>False)
  (OwnFrom.and (Own.from (holdsRow_own w.heap.size (w.heap.size+1) 148 3 1 (fun (pre:List Nat)=>pre.length) (fun (pre:List Nat)=>pre.map fun (j:Nat)=>Value.int .i64 (j:Int)) (fun _ _=>True)) _) (ownFrom_below nL (by omega)))
  (fun _ _ _ _ _ hs _ _=>hs)
  ⟨⟨_,bO,World.ownsRow_nil _ _ _ _,trivial⟩,hB0⟩
  (fun j=>{ tmps:=#[.agg #[.int .u64 (x:Int),.int .u64 (y:Int)],.pointer (some ⟨w.heap.size,0,none⟩),.slice none 0 0,.pointer (some ⟨w.heap.size+1,0,none⟩),.int .i64 (j:Int),.agg #[.int .u64 (x:Int),.int .u64 (y:Int)],.func (.func 208) #[] #[.pointer (some ⟨w.heap.size+1+1,0,none⟩)],.int .i64 (j:Int),undef,undef,undef,undef,undef],defers:=[] }) ?assign ?body ?done ?stop
 case assign=>
  intro l j W K hK;gi_wp2
  exact hK
 case body=>
  rintro l pre j W ⟨⟨v,hv,hrow,-⟩,hB⟩ hlt;have hc:=hv.cell;gi_wp2_with (gi_at_builtin;refine wpListIn_append_own _ rfl _ _ 148 rfl w.heap.size 3 i0 (.int .i64 0) 1 8 Tryz.underlying148 hi hz0 hz1 hz2 rfl (by decide) _ _ _ rfl (hrow.alloc _) ⟨W.heap.size,0,none⟩ 1 1 [.int .i64 (j:Int)] rfl rfl (cell_one_new _ _ _) (by simp[Value.oneCell']) (by unfold maxLen;omega) (by omega) (by have:=hB.size;simp;omega) ?_;intro v' w1 hown' hgrow _;obtain⟨g',cap',rfl⟩:=ownsRow_succ hown';obtain⟨hv1,hv2,hr2,hk2,hb2⟩:=hv.appended (by decide) hrow hB.size (by omega) hown' hgrow;have hc1:=hv1.cell;have hf1:=hv1.frozen)
  exact⟨hk2.from _,hb2,⟨_,hv2,by simpa using hr2,trivial⟩,hB.trans hb2⟩
 case done=>
  rintro D ys W hD' rfl ⟨⟨v,hv,hrow,-⟩,hB⟩ hK;have hc:=hv.cell;have hrow':=ownsRow_putObj hrow (.deferred none) hK rfl;gi_wp2
  refine⟨by simp,.inl ⟨_,_,rfl,run_takeDeferred hK,?_⟩⟩;refine⟨_,results_tmp rfl _ _ _,v,rfl,eD (d:=lstI (In (x,y)) 128) (by unfold lstI;rw[mapI];exact hrow') (by simp[lstI]),hB.trans (belowK_b (w:=w) nL W D _ _ (by omega) hK rfl rfl)⟩
 case stop=>
  rintro D c pre W _ _ h _;exact h.elim
end Go.Proofs.YtdlkbbgmjilccaaGreatDoor
namespace Go.Proofs.YtdlkbbgmjilccaaGreatDoor
open Go.RowKit
theorem madeB{w1:World}{base g n:Nat}(h:w1.ownsRow base 4 1 (.slice (some ⟨g,0,none⟩) n n) n (madeCells (Value.bool false).cells (n*1)).toList):MkP w1 g n (fun _=>False):=by
 rcases h.2 with ⟨hv,-⟩ | ⟨g',cap,cur,hv,-,hh,-,-,hs,ht⟩
 ·cases hv
 ·cases hv;refine⟨cur,hh,by omega,fun j hj=>?_⟩;have h1:(cur.toList.take (n*1))[j]?=((madeCells (Value.bool false).cells (n*1)).toList)[j]?:=by rw[ht]
  rw[List.getElem?_take_of_lt (by omega)] at h1;rw[aw (by simp)];have h2:((madeCells (Value.bool false).cells (n*1)).toList)[j]?=some (.bool false):=by
   simp[madeCells,Value.cells,hj,Nat.mod_one]
  rw[h2] at h1;simpa using h1
theorem sHeads_any(a1 a2:Option Addr)(nt c1 c2:Nat)(fs:List Fn)(f:Nat)(w:World)(hf:f<fs.length)(hn:fs.length<=1048576)(hm:FnsAt w 0 a2 fs)(F:Fine fs fs[f].code)(HG:∀d,Done fs fs[f].code d->GJ fs[f].code d) :
  Calls Tryz.prog 130 #[.agg #[.slice a1 nt c1,.slice a2 fs.length c2],.int .i64 f] w fun e w'=>∃v d,e=.returned v/\Done fs fs[f].code d/\DSl w' w.heap.size v (lstI (HP fs[f].code d fs[f].code.length) fs[f].code.length)/\Below w.heap.size w w':=by
 obtain⟨i0,hi,hz0,hz1,hz2⟩:=info_parts infoB;have hone:=F.one;have hmost:=F.most;have HM:Hid (FnsAt w 0 a2 fs):=hm;obtain⟨b,off,ca,cc,rfl,-,d1,d2,d3,d4⟩:=hm f hf;have hbA:Below w.heap.size w (w.alloc (.cells #[.slice a1 nt c1,.slice (some ⟨b,off,none⟩) fs.length c2] 42)):=gM.alloc nL _;have d3':=cell_later hbA d3;clear d1 d2 d3;go_enter Tryz.func130,Tryz.ntmps130
 go_wp2_with fail
 refine (cO a1 _ nt c1 c2 fs f _ hf hn (HM.out.mono hbA) F).mono ?_;rintro e w1 ⟨g,cap,d,rfl,hg,hD,hH,hb⟩;have G:=HG d hD;have H:=hD.hts F;have HDD:Hid (Done fs fs[f].code d):=hD;have hb1:Below w.heap.size w w1:=hbA.trans (hb.mono hbA.size);have d4':=d4.mono hb1;obtain⟨code,hcode⟩:∃code,code=fs[f].code:=⟨_,rfl⟩;rw[<-hcode] at F d4' hone hmost G H;have HCO:Hid (code=fs[f].code):=hcode;rw[<-hcode];clear hcode hbA d3' hD hb d4 HG HM;go_wp2_with (first | (at_make;refine wpList_make_full _ rfl _ _ 269 rfl w1.heap.size 4 i0 (.bool false) 1 Tryz.underlying269 hi hz0 hz1 _ _ _ _ code.length rfl rfl rfl rfl (by rw[hz2];omega) (by unfold maxLen;omega) nL ?_;intro w2 hown hgrow;have hM0:=madeB hown;have m0:=hM0.cell (j:=0) (by omega);have m1:=hM0.free 0))
 have hbm:Below w1.heap.size w1 w2:=gM.grown hgrow nL (by intro k hk;cases hk);have hH2:=hH.mono hbm;have d42:=d4'.mono hbm;have hb2:Below w.heap.size w w2:=hb1.trans (hbm.mono hb1.size);have hlo:w.heap.size<=w1.heap.size:=hb1.size;have HLD:Hid (d.length=code.length):=H.len;have hM1:=hM0;have hH3:=hH2;have hA3:∀X:World,Below w1.heap.size w1 X->bi X 0 ca code:=fun X h=>d4'.mono h
 have hb3:Below w1.heap.size w1 w2:=hbm;have hM2:MkP w2 w1.heap.size code.length (HP code d 0):=hM1.as (fun j _=>by show _↔False;simp)
 clear hM1 hM0 m0 m1 hown hgrow hbm hH2 d42;have HB1:Hid (Below w.heap.size w w1):=hb1;have HA3:Hid (∀X:World,Below w1.heap.size w1 X->bi X 0 ca code):=hA3;have HH1:Hid (Ht w1 g cap d):=hH;clear hb1 hb2 hA3 d4' hH3 hH hi hz0 hz1 hz2;go_loopw [8] (fun i wr=>∃(k:Nat),k<=code.length/\i=.int .i64 k/\MkP wr w1.heap.size code.length (HP code d k)/\Below w1.heap.size w1 wr) (fun i _=>code.length-(intOf i).toNat)
 case atStart=>exact⟨0,by omega,rfl,hM2,hb3⟩
 case round=>
  obtain⟨k,hk,rfl,hM,hb⟩:=hrel;clear hM2 hb3;by_cases hlt:k<code.length
  case neg=>
   obtain rfl:k=code.length:=by omega
   go_wp2_with fail
   refine (sMark_any _ _ _ _ hmost hM).mono ?_;rintro e w5 ⟨v,rfl,hds,k5⟩;have hB5:Below w.heap.size w w5:=(HB1.out.trans (hb.mono hlo)).trans (k5.mono (Nat.le_trans hlo hb.size));have hds':DSl w5 w.heap.size v (lstI (HP code d code.length) code.length):=hds.low (Nat.le_trans hlo hb.size);obtain⟨av,cv,rfl,-⟩:=hds.form;clear hds k5 hM;go_wp2;go_ret
   exact⟨_,d,rfl,HDD.out,by rw[<-HCO.out];exact hds',hB5⟩
  have hkd:k<d.length:=by rw[HLD.out];exact hlt
  obtain⟨b4,off4,rfl,-,e1,e2⟩:=HA3.out wr hb k hlt;have e3:=(HH1.out.mono hb).cell hkd;have ec:=eQ (code:=code) hlt;have ed:d.getD k (-1)=d[k]:=by rw[List.getD_eq_getElem?_getD,List.getElem?_eq_getElem hkd];rfl
  have hlow:=H.low k hkd;have HED:Hid (isJ code d k↔0<=d[k]/\(code[k].1=17\/code[k].1=18\/code[k].1=19)):=by
   show _↔_
   unfold isJ;rw[ed,ec];constructor
   ·rintro⟨h1,h2⟩;exact⟨by omega,h2⟩
   ·rintro⟨h1,h2⟩;exact⟨by omega,h2⟩
  have HEC:Hid (code.getD k (0,0)=code[k]):=ec;obtain⟨op,hop⟩:∃op,op=code[k].1:=⟨_,rfl⟩;obtain⟨av,hav⟩:∃av,av=code[k].2:=⟨_,rfl⟩;obtain⟨dk,hdk⟩:∃dk,dk=d[k]:=⟨_,rfl⟩;rw[<-hop] at e1;rw[<-hav] at e2;rw[<-hdk] at e3;rw[<-hop,<-hdk] at HED;have HOP:Hid (code[k].1=op/\code[k].2=av):=⟨hop.symm,hav.symm⟩;clear ec ed hop hav hdk hlow;have NO:¬isJ code d k->∀j,j<code.length->(HP code d k j↔HP code d (k+1) j):=fun h j _=>⟨.inl,fun q=>q.elim id (fun q=>absurd q.1 h)⟩
  have HNO:Hid (¬isJ code d k->∀j,j<code.length->(HP code d k j↔HP code d (k+1) j)):=NO;clear NO;by_cases hz:dk<0
  ·have HJN:Hid (¬isJ code d k):=fun h=>by have:=(HED.out.1 h).1;omega
   have hM':=hM.as (HNO.out HJN.out);go_wp2;go_roundw
   case rel=>exact⟨k+1,by omega,by go_num,hM',hb⟩
   case measure=>simp[intOf];omega
  by_cases hj:op=17\/op=18\/op=19
  case neg=>
   have HJN:Hid (¬isJ code d k):=fun h=>hj (HED.out.1 h).2
   have q1:(op != 17)=true:=by simpa using fun e=>hj (.inl e)
   have q2:(op != 18)=true:=by simpa using fun e=>hj (.inr (.inl e))
   have q3:(op != 19)=true:=by simpa using fun e=>hj (.inr (.inr e))
   have p1:(op == 17)=false:=by simpa using fun e=>hj (.inl e)
   have p2:(op == 18)=false:=by simpa using fun e=>hj (.inr (.inl e))
   have p3:(op == 19)=false:=by simpa using fun e=>hj (.inr (.inr e))
   have hM':=hM.as (HNO.out HJN.out);go_wp2;go_roundw
   case rel=>exact⟨k+1,by omega,by go_num,hM',hb⟩
   case measure=>simp[intOf];omega
  have HJY:Hid (isJ code d k):=HED.out.2 ⟨by omega,hj⟩;obtain⟨g1,g2,g3⟩:=G.jump k hlt HJY.out;rw[HEC.out,HOP.out.2] at g1 g2;rw[HEC.out,HOP.out.1] at g3;obtain⟨ai,rfl⟩:∃ai:Nat,av=(ai:Int):=⟨av.toNat,by omega⟩;have hai:ai<code.length:=by omega
  have s1:=hM.cell hai;have s2:=hM.free ai;have hM3:=hM.set hai;have hb3:=hb.setCell (p:=⟨w1.heap.size,ai,none⟩) nL (.bool true);have e9:∀(j:Nat),(j:Int)=(code.getD k (0,0)).2↔j=ai:=fun j=>by rw[HEC.out,HOP.out.2];omega
  by_cases hle:ai<=k
  case neg=>
   have hM4:MkP wr w1.heap.size code.length (HP code d (k+1)):=hM.as (fun j _=>⟨.inl,fun q=>q.elim id (fun ⟨_,q,_⟩=>by rw[HEC.out,HOP.out.2] at q;omega)⟩);have HM4:Hid (MkP wr w1.heap.size code.length (HP code d (k+1))):=hM4;clear hM3 hM4 e9 g3 hM;rcases hj with rfl | rfl | rfl
   all_goals
    go_wp2;go_roundw
    case rel=>exact⟨k+1,by omega,by go_num,HM4.out,hb⟩
    case measure=>simp[intOf];omega
  have hM4:MkP (wr.setCell ⟨w1.heap.size,ai,none⟩ (.bool true)) w1.heap.size code.length (HP code d (k+1)):=hM3.as (fun j _=>by
   show _↔HP code d k j\/(isJ code d k/\(code.getD k (0,0)).2<=k/\(j:Int)=(code.getD k (0,0)).2)
   constructor
   ·rintro (h | h)
    ·exact .inl h
    ·exact .inr ⟨HJY.out,by rw[HEC.out,HOP.out.2];omega,(e9 j).2 h⟩
   ·rintro (h | ⟨-,-,h⟩)
    ·exact .inl h
    ·exact .inr ((e9 j).1 h))
  have HM4:Hid (MkP (wr.setCell ⟨w1.heap.size,ai,none⟩ (.bool true)) w1.heap.size code.length (HP code d (k+1))):=hM4;clear hM3 hM4 e9 g3 hM;rcases hj with rfl | rfl | rfl
  all_goals
   go_wp2;go_roundw
   case rel=>exact⟨k+1,by omega,by go_num,HM4.out,hb3⟩
   case measure=>simp[intOf];omega
end Go.Proofs.YtdlkbbgmjilccaaGreatDoor
