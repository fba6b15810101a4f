/- RV39 -/
import Derived.Test.YtbjmgmmekmfjhaaGreatDoorRV13
import Derived.Test.YtbjmgmmekmfjhaaGreatDoorRV19
set_option maxHeartbeats 32000000
set_option maxRecDepth 100000
namespace Go.Proofs.YtbjmgmmekmfjhaaGreatDoor
open Go.RowKit
def bV {α:Type}(m:α->Nat)(l:List α):Nat:=(l.map m).sum
def LM {α:Type}(m:α->Nat)(l:List α):Nat:=l.length+bV m l
theorem bk{α:Type}(m:α->Nat)(l:List α)(k:Nat)(h:k<l.length):bV m (l.take (k+1))=bV m (l.take k)+m l[k]:=by
 unfold bV;rw[List.take_succ_eq_append_getElem h,List.map_append,List.sum_append];simp only[List.map_cons,List.map_nil,List.sum_cons,List.sum_nil,Nat.add_zero]
theorem bZ{α:Type}(m:α->Nat)(l:List α):bV m (l.take l.length)=bV m l:=by rw[List.take_length]
theorem eo{α:Type}(m:α->Nat)(l:List α)(k:Nat):bV m (l.take k)<=bV m l:=by
 have h:bV m l=bV m (l.take k)+bV m (l.drop k):=by
  unfold bV;rw[<-List.sum_append,<-List.map_append,List.take_append_drop]
 omega
def mSr (_:Sr):Nat:=0
def mFo (_:Fo):Nat:=0
def mEF (x:EF):Nat:=LM mSr x.locals+LM mSr x.stack
def mER (x:ER):Nat:=LM mSr x.fields
def mEx (x:Ex):Nat:=LM mEF x.frames+LM mER x.recs
def mFast (d:aR):Nat:=LM mFo d.ops+LM mEx d.exits
theorem szSrc_m(x:Sr)(left:Int)(w:World)(h0:0<=left)(h1:left<=1048576)(hx:gj x) :
  Calls Tryz.prog 284 #[.agg #[.int .i64 x.k,.int .i64 x.n,.int .i64 x.v.k,.int .i64 x.v.n,.string x.v.s],.int .i64 left] w fun e w'=>∃r:Int,e=.returned (.int .i64 r)/\r<=left/\(0<=r->bQ x/\(mSr x:Int)+r<=left)/\Below w.heap.size w w':=by
 have hbA:Below w.heap.size w (w.alloc (.cells #[.int .i64 x.k,.int .i64 x.n,.int .i64 x.v.k,.int .i64 x.v.n,.string x.v.s] 383)):=b_r.alloc n_l _;unfold gj at hx;go_enter Tryz.func284,Tryz.ntmps284
 go_wp2_with fail
 refine (ex _ _ _ _ _ h0 h1 hx).mono ?_;rintro e w1 ⟨rfl,hb⟩;have hB:=hbA.trans (hb.mono hbA.size);by_cases hr:left<(x.v.s.size:Int)
 ·rw[if_pos hr];go_wp2;go_ret
  exact⟨-1,rfl,by omega,by omega,hB⟩
 ·rw[if_neg hr];have hr0:¬left-(x.v.s.size:Int)<0:=by omega
  go_wp2;go_ret
  exact⟨_,rfl,by omega,fun _=>⟨by show _<=_;omega,by show ((0:Nat):Int)+_<=_;omega⟩,hB⟩
theorem fY(a:Option Addr)(xs:List Sr)(cap:Nat)(left:Int)(w:World)(h0:0<=left)(h1:left<=1048576)(hx:LMax gj xs)(hm:bD w 0 a xs) :
  Calls Tryz.prog 257 #[.slice a xs.length cap,.int .i64 left] w fun e w'=>∃r:Int,e=.returned (.int .i64 r)/\r<=left/\(0<=r->bj bQ xs/\(LM mSr xs:Int)+r<=left)/\Below w.heap.size w w':=by
 obtain⟨hn,hc⟩:=hx;unfold maxLen at hn;by_cases h:left<xs.length
 ·go_enter Tryz.func257,Tryz.ntmps257
  go_wp2;go_ret
  exact⟨-1,rfl,by omega,by omega,Below.refl _ _⟩
 ·go_enter Tryz.func257,Tryz.ntmps257
  go_wp2;go_loopw [1,5] (fun l i wr=>∃(k:Nat) (q:Int),k<=xs.length/\i=.int .i64 k/\l=.int .i64 q/\0<=q/\q<=left-xs.length/\Hid ((bV mSr (xs.take k):Int)+q<=left-xs.length)/\Hid (∀f∈xs.take k,bQ f)/\Below w.heap.size w wr) (fun _ i _=>xs.length-(intOf i).toNat)
  case atStart=>exact⟨0,_,by omega,rfl,rfl,by omega,by omega,by show ((0:Nat):Int)+_<=_;omega,by intro f hf;simp at hf,Below.refl _ _⟩
  case round=>
   obtain⟨k,q,hk,rfl,rfl,hq0,hq1,HQ,hall,hb⟩:=hrel;by_cases hlt:k<xs.length
   ·obtain⟨b,off,rfl,-,d0,d1,d2,d3,d4⟩:=hm k hlt;have e0:=cell_later hb d0;have e1:=cell_later hb d1;have e2:=cell_later hb d2;have e3:=cell_later hb d3;have e4:=cell_later hb d4;clear d0 d1 d2 d3 d4;have hck:=hc xs[k] (g_m hlt);go_wp2_with fail
    refine (szSrc_m xs[k] _ _ hq0 (by omega) hck).mono ?_;rintro e w2 ⟨r,rfl,hr,hs,hb'⟩;have hB:=hb.trans (hb'.mono hb.size);clear hb' e0 e1 e2 e3 e4;by_cases hr0:r<0
    ·clear hs;go_wp2;go_ret
     exact⟨-1,rfl,by omega,by omega,hB⟩
    ·have HS:=hs (by omega);have HS2:Hid (bQ xs[k]/\(mSr xs[k]:Int)+r<=q):=HS;clear hs HS;go_wp2;go_roundw
     case rel=>exact⟨k+1,r,by omega,by go_num,rfl,by omega,by omega,by show _<=_;rw[bk _ _ _ hlt];have a1:=HQ.out;have a2:=HS2.out.2;push_cast;omega,bA hlt hall.out HS2.out.1,hB⟩
     case measure=>simp[intOf];omega
   ·have hkn:k=xs.length:=by omega
    have HQ2:Hid ((bV mSr xs:Int)+q<=left-xs.length):=by have:=HQ.out;rwa [hkn,bZ] at this
    clear HQ;go_wp2;go_ret
    exact⟨q,rfl,by omega,fun _=>⟨⟨by omega,by have:=hall.out;rwa [List.take_of_length_le (by omega)] at this⟩,by have:=HQ2.out;show ((xs.length+bV mSr xs:Nat):Int)+_<=_;push_cast;omega⟩,hb⟩
theorem szExFrame_m(x:EF)(a0:Option Addr)(c0:Nat)(a1:Option Addr)(c1:Nat)(left:Int)(w:World)(h0:0<=left)(h1:left<=1048576)(hx:gZ x)(p0:bD w 0 a0 x.locals)(p1:bD w 0 a1 x.stack) :
  Calls Tryz.prog 194 #[.agg #[.int .i64 x.fn,.int .i64 x.pc,.slice a0 x.locals.length c0,.slice a1 x.stack.length c1],.int .i64 left] w fun e w'=>∃r:Int,e=.returned (.int .i64 r)/\r<=left/\(0<=r->cK x/\(mEF x:Int)+r<=left)/\Below w.heap.size w w':=by
 have hbA:Below w.heap.size w (w.alloc (.cells #[.int .i64 x.fn,.int .i64 x.pc,.slice a0 x.locals.length c0,.slice a1 x.stack.length c1] 283)):=b_r.alloc n_l _;have hM0:=al w #[.int .i64 x.fn,.int .i64 x.pc,.slice a0 x.locals.length c0,.slice a1 x.stack.length c1] 283;go_enter Tryz.func194,Tryz.ntmps194
 go_wp2_with fail
 refine (fY a0 x.locals c0 left _ h0 h1 hx.1 (p0.mono hbA)).mono ?_;rintro e w1 ⟨r0,rfl,hr0,hs0,hb0⟩;have hB0:=hbA.trans (hb0.mono hbA.size);have hM1:=ah hM0 hb0;by_cases hn0:r0<0
 ·clear hs0;go_wp2;go_ret
  exact⟨-1,rfl,by omega,by omega,hB0⟩
 obtain⟨hz0,ha0⟩:=hs0 (by omega);have HA0:Hid ((LM mSr x.locals:Int)+r0<=left):=ha0;clear hs0 ha0;have y1:=ae hM1;go_wp2_with fail
 refine (fY a1 x.stack c1 r0 _ (by omega) (by omega) hx.2 (p1.mono hB0)).mono ?_;rintro e w2 ⟨r1,rfl,hr1,hs1,hb1⟩;have hB1:=hB0.trans (hb1.mono hB0.size);have hM2:=ah hM1 hb1;clear y1;by_cases hn1:r1<0
 ·clear hs1 HA0;go_wp2;go_ret
  exact⟨-1,rfl,by omega,by omega,hB1⟩
 obtain⟨hz1,ha1⟩:=hs1 (by omega);have HA1:Hid ((LM mSr x.stack:Int)+r1<=r0):=ha1;clear hs1 ha1;go_wp2;go_ret
 exact⟨_,rfl,by omega,fun _=>⟨⟨hz0,hz1⟩,by show ((LM mSr x.locals+LM mSr x.stack:Nat):Int)+_<=_;have a0_:=HA0.out;have a1_:=HA1.out;omega⟩,hB1⟩
theorem szExFrameS_m(a:Option Addr)(xs:List EF)(cap:Nat)(left:Int)(w:World)(h0:0<=left)(h1:left<=1048576)(hx:LMax gZ xs)(hm:cg w 0 a xs) :
  Calls Tryz.prog 146 #[.slice a xs.length cap,.int .i64 left] w fun e w'=>∃r:Int,e=.returned (.int .i64 r)/\r<=left/\(0<=r->bj cK xs/\(LM mEF xs:Int)+r<=left)/\Below w.heap.size w w':=by
 obtain⟨hn,hc⟩:=hx;unfold maxLen at hn;by_cases h:left<xs.length
 ·go_enter Tryz.func146,Tryz.ntmps146
  go_wp2;go_ret
  exact⟨-1,rfl,by omega,by omega,Below.refl _ _⟩
 ·go_enter Tryz.func146,Tryz.ntmps146
  go_wp2;go_loopw [1,5] (fun l i wr=>∃(k:Nat) (q:Int),k<=xs.length/\i=.int .i64 k/\l=.int .i64 q/\0<=q/\q<=left-xs.length/\Hid ((bV mEF (xs.take k):Int)+q<=left-xs.length)/\Hid (∀f∈xs.take k,cK f)/\Below w.heap.size w wr) (fun _ i _=>xs.length-(intOf i).toNat)
  case atStart=>exact⟨0,_,by omega,rfl,rfl,by omega,by omega,by show ((0:Nat):Int)+_<=_;omega,by intro f hf;simp at hf,Below.refl _ _⟩
  case round=>
   obtain⟨k,q,hk,rfl,rfl,hq0,hq1,HQ,hall,hb⟩:=hrel;by_cases hlt:k<xs.length
   ·obtain⟨b,off,a0,c0,a1,c1,rfl,-,d0,d1,d2,d3,p0,p1⟩:=hm k hlt;have e0:=cell_later hb d0;have e1:=cell_later hb d1;have e2:=cell_later hb d2;have e3:=cell_later hb d3;clear d0 d1 d2 d3;have hck:=hc xs[k] (g_m hlt);go_wp2_with fail
    refine (szExFrame_m xs[k] _ _ _ _ _ _ hq0 (by omega) hck (p0.mono hb) (p1.mono hb)).mono ?_;rintro e w2 ⟨r,rfl,hr,hs,hb'⟩;have hB:=hb.trans (hb'.mono hb.size);clear hb' e0 e1 e2 e3;by_cases hr0:r<0
    ·clear hs;go_wp2;go_ret
     exact⟨-1,rfl,by omega,by omega,hB⟩
    ·have HS:=hs (by omega);have HS2:Hid (cK xs[k]/\(mEF xs[k]:Int)+r<=q):=HS;clear hs HS;go_wp2;go_roundw
     case rel=>exact⟨k+1,r,by omega,by go_num,rfl,by omega,by omega,by show _<=_;rw[bk _ _ _ hlt];have a1:=HQ.out;have a2:=HS2.out.2;push_cast;omega,bA hlt hall.out HS2.out.1,hB⟩
     case measure=>simp[intOf];omega
   ·have hkn:k=xs.length:=by omega
    have HQ2:Hid ((bV mEF xs:Int)+q<=left-xs.length):=by have:=HQ.out;rwa [hkn,bZ] at this
    clear HQ;go_wp2;go_ret
    exact⟨q,rfl,by omega,fun _=>⟨⟨by omega,by have:=hall.out;rwa [List.take_of_length_le (by omega)] at this⟩,by have:=HQ2.out;show ((xs.length+bV mEF xs:Nat):Int)+_<=_;push_cast;omega⟩,hb⟩
theorem szExRec_m(x:ER)(a0:Option Addr)(c0:Nat)(left:Int)(w:World)(h0:0<=left)(h1:left<=1048576)(hx:gK x)(p0:bD w 0 a0 x.fields) :
  Calls Tryz.prog 195 #[.agg #[.slice a0 x.fields.length c0],.int .i64 left] w fun e w'=>∃r:Int,e=.returned (.int .i64 r)/\r<=left/\(0<=r->cU x/\(mER x:Int)+r<=left)/\Below w.heap.size w w':=by
 have hbA:Below w.heap.size w (w.alloc (.cells #[.slice a0 x.fields.length c0] 286)):=b_r.alloc n_l _;have hM0:=al w #[.slice a0 x.fields.length c0] 286;go_enter Tryz.func195,Tryz.ntmps195
 go_wp2_with fail
 refine (fY a0 x.fields c0 left _ h0 h1 hx (p0.mono hbA)).mono ?_;rintro e w1 ⟨r0,rfl,hr0,hs0,hb0⟩;have hB0:=hbA.trans (hb0.mono hbA.size);have hM1:=ah hM0 hb0;by_cases hn0:r0<0
 ·clear hs0;go_wp2;go_ret
  exact⟨-1,rfl,by omega,by omega,hB0⟩
 obtain⟨hz0,ha0⟩:=hs0 (by omega);have HA0:Hid ((LM mSr x.fields:Int)+r0<=left):=ha0;clear hs0 ha0;go_wp2;go_ret
 exact⟨_,rfl,by omega,fun _=>⟨hz0,by show ((LM mSr x.fields:Nat):Int)+_<=_;have a0_:=HA0.out;omega⟩,hB0⟩
theorem szExRecS_m(a:Option Addr)(xs:List ER)(cap:Nat)(left:Int)(w:World)(h0:0<=left)(h1:left<=1048576)(hx:LMax gK xs)(hm:cj w 0 a xs) :
  Calls Tryz.prog 147 #[.slice a xs.length cap,.int .i64 left] w fun e w'=>∃r:Int,e=.returned (.int .i64 r)/\r<=left/\(0<=r->bj cU xs/\(LM mER xs:Int)+r<=left)/\Below w.heap.size w w':=by
 obtain⟨hn,hc⟩:=hx;unfold maxLen at hn;by_cases h:left<xs.length
 ·go_enter Tryz.func147,Tryz.ntmps147
  go_wp2;go_ret
  exact⟨-1,rfl,by omega,by omega,Below.refl _ _⟩
 ·go_enter Tryz.func147,Tryz.ntmps147
  go_wp2;go_loopw [1,5] (fun l i wr=>∃(k:Nat) (q:Int),k<=xs.length/\i=.int .i64 k/\l=.int .i64 q/\0<=q/\q<=left-xs.length/\Hid ((bV mER (xs.take k):Int)+q<=left-xs.length)/\Hid (∀f∈xs.take k,cU f)/\Below w.heap.size w wr) (fun _ i _=>xs.length-(intOf i).toNat)
  case atStart=>exact⟨0,_,by omega,rfl,rfl,by omega,by omega,by show ((0:Nat):Int)+_<=_;omega,by intro f hf;simp at hf,Below.refl _ _⟩
  case round=>
   obtain⟨k,q,hk,rfl,rfl,hq0,hq1,HQ,hall,hb⟩:=hrel;by_cases hlt:k<xs.length
   ·obtain⟨b,off,a0,c0,rfl,-,d0,p0⟩:=hm k hlt;have e0:=cell_later hb d0;clear d0;have hck:=hc xs[k] (g_m hlt);go_wp2_with fail
    refine (szExRec_m xs[k] _ _ _ _ hq0 (by omega) hck (p0.mono hb)).mono ?_;rintro e w2 ⟨r,rfl,hr,hs,hb'⟩;have hB:=hb.trans (hb'.mono hb.size);clear hb' e0;by_cases hr0:r<0
    ·clear hs;go_wp2;go_ret
     exact⟨-1,rfl,by omega,by omega,hB⟩
    ·have HS:=hs (by omega);have HS2:Hid (cU xs[k]/\(mER xs[k]:Int)+r<=q):=HS;clear hs HS;go_wp2;go_roundw
     case rel=>exact⟨k+1,r,by omega,by go_num,rfl,by omega,by omega,by show _<=_;rw[bk _ _ _ hlt];have a1:=HQ.out;have a2:=HS2.out.2;push_cast;omega,bA hlt hall.out HS2.out.1,hB⟩
     case measure=>simp[intOf];omega
   ·have hkn:k=xs.length:=by omega
    have HQ2:Hid ((bV mER xs:Int)+q<=left-xs.length):=by have:=HQ.out;rwa [hkn,bZ] at this
    clear HQ;go_wp2;go_ret
    exact⟨q,rfl,by omega,fun _=>⟨⟨by omega,by have:=hall.out;rwa [List.take_of_length_le (by omega)] at this⟩,by have:=HQ2.out;show ((xs.length+bV mER xs:Nat):Int)+_<=_;push_cast;omega⟩,hb⟩
theorem szExit_m(x:Ex)(a0:Option Addr)(c0:Nat)(a1:Option Addr)(c1:Nat)(left:Int)(w:World)(h0:0<=left)(h1:left<=1048576)(hx:gS x)(p0:cg w 0 a0 x.frames)(p1:cj w 0 a1 x.recs) :
  Calls Tryz.prog 94 #[.agg #[.int .i64 x.kind,.int .i64 x.spec.f,.int .i64 x.spec.pc,.int .i64 x.spec.seen,.int .i64 x.spec.target,.slice a0 x.frames.length c0,.slice a1 x.recs.length c1],.int .i64 left] w fun e w'=>∃r:Int,e=.returned (.int .i64 r)/\r<=left/\(0<=r->cC x/\(mEx x:Int)+r<=left)/\Below w.heap.size w w':=by
 have hbA:Below w.heap.size w (w.alloc (.cells #[.int .i64 x.kind,.int .i64 x.spec.f,.int .i64 x.spec.pc,.int .i64 x.spec.seen,.int .i64 x.spec.target,.slice a0 x.frames.length c0,.slice a1 x.recs.length c1] 156)):=b_r.alloc n_l _;have hM0:=al w #[.int .i64 x.kind,.int .i64 x.spec.f,.int .i64 x.spec.pc,.int .i64 x.spec.seen,.int .i64 x.spec.target,.slice a0 x.frames.length c0,.slice a1 x.recs.length c1] 156;go_enter Tryz.func94,Tryz.ntmps94
 go_wp2_with fail
 refine (szExFrameS_m a0 x.frames c0 left _ h0 h1 hx.1 (p0.mono hbA)).mono ?_;rintro e w1 ⟨r0,rfl,hr0,hs0,hb0⟩;have hB0:=hbA.trans (hb0.mono hbA.size);have hM1:=ah hM0 hb0;by_cases hn0:r0<0
 ·clear hs0;go_wp2;go_ret
  exact⟨-1,rfl,by omega,by omega,hB0⟩
 obtain⟨hz0,ha0⟩:=hs0 (by omega);have HA0:Hid ((LM mEF x.frames:Int)+r0<=left):=ha0;clear hs0 ha0;have y1:=ae hM1;go_wp2_with fail
 refine (szExRecS_m a1 x.recs c1 r0 _ (by omega) (by omega) hx.2 (p1.mono hB0)).mono ?_;rintro e w2 ⟨r1,rfl,hr1,hs1,hb1⟩;have hB1:=hB0.trans (hb1.mono hB0.size);have hM2:=ah hM1 hb1;clear y1;by_cases hn1:r1<0
 ·clear hs1 HA0;go_wp2;go_ret
  exact⟨-1,rfl,by omega,by omega,hB1⟩
 obtain⟨hz1,ha1⟩:=hs1 (by omega);have HA1:Hid ((LM mER x.recs:Int)+r1<=r0):=ha1;clear hs1 ha1;go_wp2;go_ret
 exact⟨_,rfl,by omega,fun _=>⟨⟨hz0,hz1⟩,by show ((LM mEF x.frames+LM mER x.recs:Nat):Int)+_<=_;have a0_:=HA0.out;have a1_:=HA1.out;omega⟩,hB1⟩
theorem szExitS_m(a:Option Addr)(xs:List Ex)(cap:Nat)(left:Int)(w:World)(h0:0<=left)(h1:left<=1048576)(hx:LMax gS xs)(hm:cZ w 0 a xs) :
  Calls Tryz.prog 48 #[.slice a xs.length cap,.int .i64 left] w fun e w'=>∃r:Int,e=.returned (.int .i64 r)/\r<=left/\(0<=r->bj cC xs/\(LM mEx xs:Int)+r<=left)/\Below w.heap.size w w':=by
 obtain⟨hn,hc⟩:=hx;unfold maxLen at hn;by_cases h:left<xs.length
 ·go_enter Tryz.func48,Tryz.ntmps48
  go_wp2;go_ret
  exact⟨-1,rfl,by omega,by omega,Below.refl _ _⟩
 ·go_enter Tryz.func48,Tryz.ntmps48
  go_wp2;go_loopw [1,5] (fun l i wr=>∃(k:Nat) (q:Int),k<=xs.length/\i=.int .i64 k/\l=.int .i64 q/\0<=q/\q<=left-xs.length/\Hid ((bV mEx (xs.take k):Int)+q<=left-xs.length)/\Hid (∀f∈xs.take k,cC f)/\Below w.heap.size w wr) (fun _ i _=>xs.length-(intOf i).toNat)
  case atStart=>exact⟨0,_,by omega,rfl,rfl,by omega,by omega,by show ((0:Nat):Int)+_<=_;omega,by intro f hf;simp at hf,Below.refl _ _⟩
  case round=>
   obtain⟨k,q,hk,rfl,rfl,hq0,hq1,HQ,hall,hb⟩:=hrel;by_cases hlt:k<xs.length
   ·obtain⟨b,off,a0,c0,a1,c1,rfl,-,d0,d1,d2,d3,d4,d5,d6,p0,p1⟩:=hm k hlt;have e0:=cell_later hb d0;have e1:=cell_later hb d1;have e2:=cell_later hb d2;have e3:=cell_later hb d3;have e4:=cell_later hb d4;have e5:=cell_later hb d5;have e6:=cell_later hb d6;clear d0 d1 d2 d3 d4 d5 d6;have hck:=hc xs[k] (g_m hlt);go_wp2_with fail
    refine (szExit_m xs[k] _ _ _ _ _ _ hq0 (by omega) hck (p0.mono hb) (p1.mono hb)).mono ?_;rintro e w2 ⟨r,rfl,hr,hs,hb'⟩;have hB:=hb.trans (hb'.mono hb.size);clear hb' e0 e1 e2 e3 e4 e5 e6;by_cases hr0:r<0
    ·clear hs;go_wp2;go_ret
     exact⟨-1,rfl,by omega,by omega,hB⟩
    ·have HS:=hs (by omega);have HS2:Hid (cC xs[k]/\(mEx xs[k]:Int)+r<=q):=HS;clear hs HS;go_wp2;go_roundw
     case rel=>exact⟨k+1,r,by omega,by go_num,rfl,by omega,by omega,by show _<=_;rw[bk _ _ _ hlt];have a1:=HQ.out;have a2:=HS2.out.2;push_cast;omega,bA hlt hall.out HS2.out.1,hB⟩
     case measure=>simp[intOf];omega
   ·have hkn:k=xs.length:=by omega
    have HQ2:Hid ((bV mEx xs:Int)+q<=left-xs.length):=by have:=HQ.out;rwa [hkn,bZ] at this
    clear HQ;go_wp2;go_ret
    exact⟨q,rfl,by omega,fun _=>⟨⟨by omega,by have:=hall.out;rwa [List.take_of_length_le (by omega)] at this⟩,by have:=HQ2.out;show ((xs.length+bV mEx xs:Nat):Int)+_<=_;push_cast;omega⟩,hb⟩
theorem szFOp_m(x:Fo)(left:Int)(w:World)(h0:0<=left)(h1:left<=1048576)(hx:gG x) :
  Calls Tryz.prog 93 #[.agg #[.int .i64 x.op,.int .i64 x.d,.int .i64 x.a,.int .i64 x.b,.int .i64 x.x,.int .i64 x.f,.int .i64 x.p,.int .i64 x.v.k,.int .i64 x.v.n,.string x.v.s],.int .i64 left] w fun e w'=>∃r:Int,e=.returned (.int .i64 r)/\r<=left/\(0<=r->dx x/\(mFo x:Int)+r<=left)/\Below w.heap.size w w':=by
 have hbA:Below w.heap.size w (w.alloc (.cells #[.int .i64 x.op,.int .i64 x.d,.int .i64 x.a,.int .i64 x.b,.int .i64 x.x,.int .i64 x.f,.int .i64 x.p,.int .i64 x.v.k,.int .i64 x.v.n,.string x.v.s] 150)):=b_r.alloc n_l _;unfold gG at hx;go_enter Tryz.func93,Tryz.ntmps93
 go_wp2_with fail
 refine (ex _ _ _ _ _ h0 h1 hx).mono ?_;rintro e w1 ⟨rfl,hb⟩;have hB:=hbA.trans (hb.mono hbA.size);by_cases hr:left<(x.v.s.size:Int)
 ·rw[if_pos hr];go_wp2;go_ret
  exact⟨-1,rfl,by omega,by omega,hB⟩
 ·rw[if_neg hr];have hr0:¬left-(x.v.s.size:Int)<0:=by omega
  go_wp2;go_ret
  exact⟨_,rfl,by omega,fun _=>⟨by show _<=_;omega,by show ((0:Nat):Int)+_<=_;omega⟩,hB⟩
theorem szFOpS_m(a:Option Addr)(xs:List Fo)(cap:Nat)(left:Int)(w:World)(h0:0<=left)(h1:left<=1048576)(hx:LMax gG xs)(hm:cV w 0 a xs) :
  Calls Tryz.prog 47 #[.slice a xs.length cap,.int .i64 left] w fun e w'=>∃r:Int,e=.returned (.int .i64 r)/\r<=left/\(0<=r->bj dx xs/\(LM mFo xs:Int)+r<=left)/\Below w.heap.size w w':=by
 obtain⟨hn,hc⟩:=hx;unfold maxLen at hn;by_cases h:left<xs.length
 ·go_enter Tryz.func47,Tryz.ntmps47
  go_wp2;go_ret
  exact⟨-1,rfl,by omega,by omega,Below.refl _ _⟩
 ·go_enter Tryz.func47,Tryz.ntmps47
  go_wp2;go_loopw [1,5] (fun l i wr=>∃(k:Nat) (q:Int),k<=xs.length/\i=.int .i64 k/\l=.int .i64 q/\0<=q/\q<=left-xs.length/\Hid ((bV mFo (xs.take k):Int)+q<=left-xs.length)/\Hid (∀f∈xs.take k,dx f)/\Below w.heap.size w wr) (fun _ i _=>xs.length-(intOf i).toNat)
  case atStart=>exact⟨0,_,by omega,rfl,rfl,by omega,by omega,by show ((0:Nat):Int)+_<=_;omega,by intro f hf;simp at hf,Below.refl _ _⟩
  case round=>
   obtain⟨k,q,hk,rfl,rfl,hq0,hq1,HQ,hall,hb⟩:=hrel;by_cases hlt:k<xs.length
   ·obtain⟨b,off,rfl,-,d0,d1,d2,d3,d4,d5,d6,d7,d8,d9⟩:=hm k hlt;have e0:=cell_later hb d0;have e1:=cell_later hb d1;have e2:=cell_later hb d2;have e3:=cell_later hb d3;have e4:=cell_later hb d4;have e5:=cell_later hb d5;have e6:=cell_later hb d6;have e7:=cell_later hb d7;have e8:=cell_later hb d8;have e9:=cell_later hb d9;clear d0 d1 d2 d3 d4 d5 d6 d7 d8 d9;have hck:=hc xs[k] (g_m hlt);go_wp2_with fail
    refine (szFOp_m xs[k] _ _ hq0 (by omega) hck).mono ?_;rintro e w2 ⟨r,rfl,hr,hs,hb'⟩;have hB:=hb.trans (hb'.mono hb.size);clear hb' e0 e1 e2 e3 e4 e5 e6 e7 e8 e9;by_cases hr0:r<0
    ·clear hs;go_wp2;go_ret
     exact⟨-1,rfl,by omega,by omega,hB⟩
    ·have HS:=hs (by omega);have HS2:Hid (dx xs[k]/\(mFo xs[k]:Int)+r<=q):=HS;clear hs HS;go_wp2;go_roundw
     case rel=>exact⟨k+1,r,by omega,by go_num,rfl,by omega,by omega,by show _<=_;rw[bk _ _ _ hlt];have a1:=HQ.out;have a2:=HS2.out.2;push_cast;omega,bA hlt hall.out HS2.out.1,hB⟩
     case measure=>simp[intOf];omega
   ·have hkn:k=xs.length:=by omega
    have HQ2:Hid ((bV mFo xs:Int)+q<=left-xs.length):=by have:=HQ.out;rwa [hkn,bZ] at this
    clear HQ;go_wp2;go_ret
    exact⟨q,rfl,by omega,fun _=>⟨⟨by omega,by have:=hall.out;rwa [List.take_of_length_le (by omega)] at this⟩,by have:=HQ2.out;show ((xs.length+bV mFo xs:Nat):Int)+_<=_;push_cast;omega⟩,hb⟩
theorem szFast_m(oa ea:Option Addr)(oc ec:Nat)(d:aR)(left:Int)(w:World)(h0:0<=left)(h1:left<=1048576)(hx:go d)(hm:br w 0 oa ea d) :
  Calls Tryz.prog 8 #[.agg (aK oa ea oc ec d),.int .i64 left] w fun e w'=>∃r:Int,e=.returned (.int .i64 r)/\r<=left/\(0<=r->a8 d/\(mFast d:Int)+r<=left)/\Below w.heap.size w w':=by
 unfold aK;have hbA:Below w.heap.size w (w.alloc (.cells #[.int .i64 d.fn,.int .i64 d.entry,.int .i64 d.vals,.int .i64 d.nums,.slice oa d.ops.length oc,.slice ea d.exits.length ec] 29)):=b_r.alloc n_l _;have hM0:=al w #[.int .i64 d.fn,.int .i64 d.entry,.int .i64 d.vals,.int .i64 d.nums,.slice oa d.ops.length oc,.slice ea d.exits.length ec] 29;go_enter Tryz.func8,Tryz.ntmps8
 go_wp2_with fail
 refine (szFOpS_m oa d.ops oc left _ h0 h1 hx.1 (hm.ops.mono hbA)).mono ?_;rintro e w1 ⟨r1,rfl,hr1,hs1,hb1⟩;have hB1:=hbA.trans (hb1.mono hbA.size);have hM1:=ah hM0 hb1;by_cases hn1:r1<0
 ·clear hs1;go_wp2;go_ret
  exact⟨-1,rfl,by omega,by omega,hB1⟩
 have HS1:Hid (bj dx d.ops/\(LM mFo d.ops:Int)+r1<=left):=hs1 (by omega);clear hs1;have y1:=ae hM1;go_wp2_with fail
 refine (szExitS_m ea d.exits ec r1 _ (by omega) (by omega) hx.2 (hm.exits.mono hB1)).mono ?_;rintro e w2 ⟨r2,rfl,hr2,hs2,hb2⟩;have hB2:=hB1.trans (hb2.mono hB1.size);clear y1;by_cases hn2:r2<0
 ·clear hs2;go_wp2;go_ret
  exact⟨-1,rfl,by omega,by omega,hB2⟩
 have HS2:Hid (bj cC d.exits/\(LM mEx d.exits:Int)+r2<=r1):=hs2 (by omega);clear hs2;go_wp2;go_ret
 exact⟨_,rfl,by omega,fun _=>⟨⟨HS1.out.1,HS2.out.1⟩,by have a1:=HS1.out.2;have a2:=HS2.out.2;show ((LM mFo d.ops+LM mEx d.exits:Nat):Int)+_<=_;push_cast;omega⟩,hB2⟩
theorem hidm{p:Prop}(h:p):Hid p:=h
theorem eF(lo g:Nat)(xs:List Sr)(cap k0:Nat)(w:World)(h1:k0+10*LM mSr xs<=100000000000000)(hn:xs.length<=1048576)(hB:SrB w lo g xs) :
  Calls Tryz.prog 175 #[.slice (some ⟨g,0,none⟩) xs.length cap,.int .i64 (k0:Int)] w fun e w'=>∃k1:Nat,e=.returned (.int .i64 (k1:Int))/\k0<=k1/\k1<=k0+10*LM mSr xs/\Mild w w'/\aT lo [212,114,101,163] w w':=by
 have hlo:lo<=g:=hB.1;have H1:=hidm h1;have hle:k0<=100000000000000:=by omega
 clear h1;go_enter Tryz.func175,Tryz.ntmps175
 go_wp2;go_loopw [1,5] (fun q i wr=>∃(k:Nat) (m:Nat),k<=xs.length/\i=.int .i64 k/\q=.int .i64 (m:Int)/\Hid (k0<=m/\m<=k0+10*(k+bV mSr (xs.take k)))/\Hid (Mild w wr)/\Hid (aT lo [212,114,101,163] w wr)) (fun _ i _=>xs.length-(intOf i).toNat)
 case atStart=>exact⟨0,k0,by omega,rfl,rfl,⟨by omega,by omega⟩,Mild.refl _,aT.refl _ _ _⟩
 case round=>
  obtain⟨k,m,hk,rfl,rfl,HM,HD,HK⟩:=hrel;by_cases hlt:k<xs.length
  ·have HL:Hid (k+1+(bV mSr (xs.take k)+mSr xs[k])<=LM mSr xs):=by
    show _<=_
    rw[<-bk _ _ _ hlt];have:=eo mSr xs (k+1);unfold LM;omega
   have hmz:m<=100000000000000:=by have a1:=HM.out;have a2:=HL.out;have a3:=H1.out;omega
   obtain⟨-,cur,hC,hcs,hcd⟩:=hB.mild HD.out;obtain⟨n0,n1,n2,n3,n4⟩:=hcd k hlt;have hfz:=aq hC;obtain⟨y0,hy0⟩:∃v,wr.cell? ⟨g,k*5,none⟩=some v:=⟨cur[k*5]'(by omega),by rw[ae hC];exact Array.getElem?_eq_getElem _⟩;obtain⟨y1,hy1⟩:∃v,wr.cell? ⟨g,k*5+1,none⟩=some v:=⟨cur[k*5+1]'(by omega),by rw[ae hC];exact Array.getElem?_eq_getElem _⟩;obtain⟨y2,hy2⟩:∃v,wr.cell? ⟨g,k*5+2,none⟩=some v:=⟨cur[k*5+2]'(by omega),by rw[ae hC];exact Array.getElem?_eq_getElem _⟩;obtain⟨y3,hy3⟩:∃v,wr.cell? ⟨g,k*5+3,none⟩=some v:=⟨cur[k*5+3]'(by omega),by rw[ae hC];exact Array.getElem?_eq_getElem _⟩;obtain⟨wx,hwx⟩:∃wx,wx=((((wr.setCell ⟨g,k*5,none⟩ (.int .i64 ((m:Int)))).setCell ⟨g,k*5+1,none⟩ (.int .i64 ((m:Int)+1))).setCell ⟨g,k*5+2,none⟩ (.int .i64 ((m:Int)+1+1))).setCell ⟨g,k*5+3,none⟩ (.int .i64 ((m:Int)+1+1+1))):=⟨_,rfl⟩;have hmx:Mild wr wx:=by rw[hwx];exact (((((Mild.refl wr).set hC n0 (az _ _)).set (ak hC _) (aG n1 (az _ _)) (az _ _)).set (ak (ak hC _) _) (aG (aG n2 (az _ _)) (az _ _)) (az _ _)).set (ak (ak (ak hC _) _) _) (aG (aG (aG n3 (az _ _)) (az _ _)) (az _ _)) (az _ _))
   have HKX:Hid (aT lo [212,114,101,163] w wx):=by show aT _ _ _ _;rw[hwx];exact ((((HK.out.set hC (by simp) hlo _ _).set (ak hC _) (by simp) hlo _ _).set (ak (ak hC _) _) (by simp) hlo _ _).set (ak (ak (ak hC _) _) _) (by simp) hlo _ _)
   have HDX:=hidm (HD.out.trans hmx);obtain⟨cx,hCx,hszx,-⟩:=hmx.blk _ _ _ hC;have HNX:Hid (noSl cx[k*5+4]?):=by
    obtain⟨-,c2,q1,q2,q3⟩:=hB.mild HDX.out;rw[hCx] at q1
    cases q1;exact (q3 k hlt).2.2.2.2
   have HMT:=hidm fun w'=>dC ((m:Int)+1+1+1+1) w' (by omega) (by omega)
   have hszx2:cx.size=xs.length*5:=by omega
   clear hC hcs hcd n0 n1 n2 n3 n4 hmx;go_wp2_with fail
   rw[<-hwx];clear hwx hfz hy0 hy1 hy2 hy3;refine (HMT.out _).mono ?_;rintro e w2 ⟨sx,rfl,hb2⟩;have hC2:=ah hCx hb2;have hfz:=aq hC2;obtain⟨yl,hcl⟩:∃v,w2.cell? ⟨g,k*5+4,none⟩=some v:=⟨cx[k*5+4]'(by omega),by rw[ae hC2];exact Array.getElem?_eq_getElem _⟩;have HR:Hid (Mild w (w2.setCell ⟨g,k*5+4,none⟩ (.string sx))/\aT lo [212,114,101,163] w (w2.setCell ⟨g,k*5+4,none⟩ (.string sx))):=⟨(HDX.out.trans (Mild.below hb2)).set hC2 HNX.out (eU _),(HKX.out.trans (aT.below hb2)).set hC2 (by simp) hlo _ _⟩;clear hC2 hb2 hCx hszx hszx2 HMT;go_wp2;go_roundw
   case rel=>exact⟨k+1,m+5,by omega,by go_num,by go_num,by have a1:=HM.out;have a2:=bk mSr xs k hlt;show _/\_;rw[a2];omega,HR.out.1,HR.out.2⟩
   case measure=>simp[intOf];omega
  ·have hkn:k=xs.length:=by omega
   subst hkn;go_wp2;go_ret
   refine⟨m,rfl,HM.out.1,?_,HD.out,HK.out⟩;have:=HM.out.2;rw[bZ] at this;exact this
theorem markExFrameS_m(lo g:Nat)(xs:List EF)(cap k0:Nat)(w:World)(h1:k0+10*LM mEF xs<=100000000000000)(hn:xs.length<=1048576)(hc:∀x∈xs,cK x)(hB:EFB w lo g xs) :
  Calls Tryz.prog 114 #[.slice (some ⟨g,0,none⟩) xs.length cap,.int .i64 (k0:Int)] w fun e w'=>∃k1:Nat,e=.returned (.int .i64 (k1:Int))/\k0<=k1/\k1<=k0+10*LM mEF xs/\Mild w w'/\aT lo [212,114,101,163] w w':=by
 have hlo:lo<=g:=hB.1;have H1:=hidm h1;have hle:k0<=100000000000000:=by omega
 clear h1;go_enter Tryz.func114,Tryz.ntmps114
 go_wp2;go_loopw [1,5] (fun q i wr=>∃(k:Nat) (m:Nat),k<=xs.length/\i=.int .i64 k/\q=.int .i64 (m:Int)/\Hid (k0<=m/\m<=k0+10*(k+bV mEF (xs.take k)))/\Hid (Mild w wr)/\Hid (aT lo [212,114,101,163] w wr)) (fun _ i _=>xs.length-(intOf i).toNat)
 case atStart=>exact⟨0,k0,by omega,rfl,rfl,⟨by omega,by omega⟩,Mild.refl _,aT.refl _ _ _⟩
 case round=>
  obtain⟨k,m,hk,rfl,rfl,HM,HD,HK⟩:=hrel;by_cases hlt:k<xs.length
  ·have HL:Hid (k+1+(bV mEF (xs.take k)+mEF xs[k])<=LM mEF xs):=by
    show _<=_
    rw[<-bk _ _ _ hlt];have:=eo mEF xs (k+1);unfold LM;omega
   have hmz:m<=100000000000000:=by have a1:=HM.out;have a2:=HL.out;have a3:=H1.out;omega
   obtain⟨-,cur,hC,hcs,hcd⟩:=hB.mild HD.out;obtain⟨n0,n1,g0,g1,d0,d1,s0,s1⟩:=hcd k hlt;have hfz:=aq hC;obtain⟨y0,hy0⟩:∃v,wr.cell? ⟨g,k*4,none⟩=some v:=⟨cur[k*4]'(by omega),by rw[ae hC];exact Array.getElem?_eq_getElem _⟩;obtain⟨y1,hy1⟩:∃v,wr.cell? ⟨g,k*4+1,none⟩=some v:=⟨cur[k*4+1]'(by omega),by rw[ae hC];exact Array.getElem?_eq_getElem _⟩;obtain⟨wx,hwx⟩:∃wx,wx=((wr.setCell ⟨g,k*4,none⟩ (.int .i64 ((m:Int)))).setCell ⟨g,k*4+1,none⟩ (.int .i64 ((m:Int)+1))):=⟨_,rfl⟩;have hmx:Mild wr wx:=by rw[hwx];exact (((Mild.refl wr).set hC n0 (az _ _)).set (ak hC _) (aG n1 (az _ _)) (az _ _))
   have HKX:Hid (aT lo [212,114,101,163] w wx):=by show aT _ _ _ _;rw[hwx];exact ((HK.out.set hC (by simp) hlo _ _).set (ak hC _) (by simp) hlo _ _)
   have HDX:=hidm (HD.out.trans hmx);have hsm:=hc xs[k] (g_m hlt);have HCK:=hidm (⟨hC,d0,d1,trivial⟩:_/\_/\_/\True);have HX:Hid (mEF xs[k]=LM mSr xs[k].locals+LM mSr xs[k].stack):=rfl;have z0:wr.cell? ⟨g,k*4+2,none⟩=some (.slice (some ⟨g0,0,none⟩) xs[k].locals.length xs[k].locals.length):=by rw[ae hC];exact d0
   have hmk:=eF lo g0 xs[k].locals xs[k].locals.length (m+2) wx (by have a1:=HM.out;have a2:=HL.out;have a3:=H1.out;have a4:=HX.out;omega) hsm.1.1 (s0.mild hmx);have e1:((m+2:Nat):Int)=(m:Int)+1+1:=by omega
   rw[e1] at hmk;clear e1;have HS1:=hidm (s1.mild hmx);have HMX:=hidm hmx;clear hC hcs hcd n0 n1 d0 d1 s0 s1 hmx;go_wp2_with fail
   rw[<-hwx];clear hwx hfz z0 hy0 hy1;refine hmk.mono ?_;rintro e w2 ⟨k1,rfl,ha,hb,hmi,hke⟩;have HE1:Hid (m+2<=k1/\k1<=m+2+10*(LM mSr xs[k].locals)):=by show _/\_;omega
   have hkz1:k1<=100000000000000:=by have a1:=HM.out;have a2:=HL.out;have a3:=H1.out;have a4:=HX.out;have a5:=HE1.out;omega
   have HK1:=hidm (HKX.out.trans hke);have HD1:=hidm (HDX.out.trans hmi);replace HMX:=hidm (HMX.out.trans hmi);replace HS1:=hidm (HS1.out.mild hmi);clear hmk ha hb hmi hke;have z1:w2.cell? ⟨g,k*4+3,none⟩=some (.slice (some ⟨g1,0,none⟩) xs[k].stack.length xs[k].stack.length):=HMX.out.slice HCK.out.1 HCK.out.2.2.1;have hmk:=eF lo g1 xs[k].stack xs[k].stack.length k1 w2 (by have a1:=HM.out;have a2:=HL.out;have a3:=H1.out;have a4:=HX.out;have a5:=HE1.out;omega) hsm.2.1 HS1.out;go_wp2_with fail
   clear z1;refine hmk.mono ?_;rintro e w3 ⟨k2,rfl,ha,hb,hmi,hke⟩;have HE2:Hid (m+2<=k2/\k2<=m+2+10*(LM mSr xs[k].locals+LM mSr xs[k].stack)):=by have a5:=HE1.out;show _/\_;omega
   have hkz2:k2<=100000000000000:=by have a1:=HM.out;have a2:=HL.out;have a3:=H1.out;have a4:=HX.out;have a5:=HE2.out;omega
   have HK2:=hidm (HK1.out.trans hke);have HD2:=hidm (HD1.out.trans hmi);clear hmk ha hb hmi hke;go_wp2;go_roundw
   case rel=>exact⟨k+1,k2,by omega,by go_num,rfl,by have a1:=HM.out;have a2:=bk mEF xs k hlt;have a4:=HX.out;have a5:=HE2.out;show _/\_;rw[a2];omega,HD2,HK2⟩
   case measure=>simp[intOf];omega
  ·have hkn:k=xs.length:=by omega
   subst hkn;go_wp2;go_ret
   refine⟨m,rfl,HM.out.1,?_,HD.out,HK.out⟩;have:=HM.out.2;rw[bZ] at this;exact this
theorem markExRecS_m(lo g:Nat)(xs:List ER)(cap k0:Nat)(w:World)(h1:k0+10*LM mER xs<=100000000000000)(hn:xs.length<=1048576)(hc:∀x∈xs,cU x)(hB:ERB w lo g xs) :
  Calls Tryz.prog 115 #[.slice (some ⟨g,0,none⟩) xs.length cap,.int .i64 (k0:Int)] w fun e w'=>∃k1:Nat,e=.returned (.int .i64 (k1:Int))/\k0<=k1/\k1<=k0+10*LM mER xs/\Mild w w'/\aT lo [212,114,101,163] w w':=by
 have hlo:lo<=g:=hB.1;have H1:=hidm h1;have hle:k0<=100000000000000:=by omega
 clear h1;go_enter Tryz.func115,Tryz.ntmps115
 go_wp2;go_loopw [1,5] (fun q i wr=>∃(k:Nat) (m:Nat),k<=xs.length/\i=.int .i64 k/\q=.int .i64 (m:Int)/\Hid (k0<=m/\m<=k0+10*(k+bV mER (xs.take k)))/\Hid (Mild w wr)/\Hid (aT lo [212,114,101,163] w wr)) (fun _ i _=>xs.length-(intOf i).toNat)
 case atStart=>exact⟨0,k0,by omega,rfl,rfl,⟨by omega,by omega⟩,Mild.refl _,aT.refl _ _ _⟩
 case round=>
  obtain⟨k,m,hk,rfl,rfl,HM,HD,HK⟩:=hrel;by_cases hlt:k<xs.length
  ·have HL:Hid (k+1+(bV mER (xs.take k)+mER xs[k])<=LM mER xs):=by
    show _<=_
    rw[<-bk _ _ _ hlt];have:=eo mER xs (k+1);unfold LM;omega
   have hmz:m<=100000000000000:=by have a1:=HM.out;have a2:=HL.out;have a3:=H1.out;omega
   obtain⟨-,cur,hC,hcs,hcd⟩:=hB.mild HD.out;obtain⟨g0,d0,s0⟩:=hcd k hlt;have hfz:=aq hC;obtain⟨wx,hwx⟩:∃wx,wx=wr:=⟨_,rfl⟩;have hmx:Mild wr wx:=by rw[hwx];exact Mild.refl _
   have HKX:Hid (aT lo [212,114,101,163] w wx):=by show aT _ _ _ _;rw[hwx];exact HK.out
   have HDX:=hidm (HD.out.trans hmx);have hsm:=hc xs[k] (g_m hlt);have HCK:=hidm (⟨hC,d0,trivial⟩:_/\_/\True);have HX:Hid (mER xs[k]=LM mSr xs[k].fields):=rfl;have z0:wr.cell? ⟨g,k,none⟩=some (.slice (some ⟨g0,0,none⟩) xs[k].fields.length xs[k].fields.length):=by rw[ae hC];exact d0
   have hmk:=eF lo g0 xs[k].fields xs[k].fields.length (m) wx (by have a1:=HM.out;have a2:=HL.out;have a3:=H1.out;have a4:=HX.out;omega) hsm.1 (s0.mild hmx);have HMX:=hidm hmx;clear hC hcs hcd  d0 s0 hmx;go_wp2_with fail
   rw[<-hwx];clear hwx hfz z0;refine hmk.mono ?_;rintro e w2 ⟨k1,rfl,ha,hb,hmi,hke⟩;have HE1:Hid (m+0<=k1/\k1<=m+0+10*(LM mSr xs[k].fields)):=by show _/\_;omega
   have hkz1:k1<=100000000000000:=by have a1:=HM.out;have a2:=HL.out;have a3:=H1.out;have a4:=HX.out;have a5:=HE1.out;omega
   have HK1:=hidm (HKX.out.trans hke);have HD1:=hidm (HDX.out.trans hmi);clear hmk ha hb hmi hke;go_wp2;go_roundw
   case rel=>exact⟨k+1,k1,by omega,by go_num,rfl,by have a1:=HM.out;have a2:=bk mER xs k hlt;have a4:=HX.out;have a5:=HE1.out;show _/\_;rw[a2];omega,HD1,HK1⟩
   case measure=>simp[intOf];omega
  ·have hkn:k=xs.length:=by omega
   subst hkn;go_wp2;go_ret
   refine⟨m,rfl,HM.out.1,?_,HD.out,HK.out⟩;have:=HM.out.2;rw[bZ] at this;exact this
theorem markExitS_m(lo g:Nat)(xs:List Ex)(cap k0:Nat)(w:World)(h1:k0+10*LM mEx xs<=100000000000000)(hn:xs.length<=1048576)(hc:∀x∈xs,cC x)(hB:ExB w lo g xs) :
  Calls Tryz.prog 66 #[.slice (some ⟨g,0,none⟩) xs.length cap,.int .i64 (k0:Int)] w fun e w'=>∃k1:Nat,e=.returned (.int .i64 (k1:Int))/\k0<=k1/\k1<=k0+10*LM mEx xs/\Mild w w'/\aT lo [212,114,101,163] w w':=by
 have hlo:lo<=g:=hB.1;have H1:=hidm h1;have hle:k0<=100000000000000:=by omega
 clear h1;go_enter Tryz.func66,Tryz.ntmps66
 go_wp2;go_loopw [1,5] (fun q i wr=>∃(k:Nat) (m:Nat),k<=xs.length/\i=.int .i64 k/\q=.int .i64 (m:Int)/\Hid (k0<=m/\m<=k0+10*(k+bV mEx (xs.take k)))/\Hid (Mild w wr)/\Hid (aT lo [212,114,101,163] w wr)) (fun _ i _=>xs.length-(intOf i).toNat)
 case atStart=>exact⟨0,k0,by omega,rfl,rfl,⟨by omega,by omega⟩,Mild.refl _,aT.refl _ _ _⟩
 case round=>
  obtain⟨k,m,hk,rfl,rfl,HM,HD,HK⟩:=hrel;by_cases hlt:k<xs.length
  ·have HL:Hid (k+1+(bV mEx (xs.take k)+mEx xs[k])<=LM mEx xs):=by
    show _<=_
    rw[<-bk _ _ _ hlt];have:=eo mEx xs (k+1);unfold LM;omega
   have hmz:m<=100000000000000:=by have a1:=HM.out;have a2:=HL.out;have a3:=H1.out;omega
   obtain⟨-,cur,hC,hcs,hcd⟩:=hB.mild HD.out;obtain⟨n0,n1,n2,n3,n4,g0,g1,d0,d1,s0,s1⟩:=hcd k hlt;have hfz:=aq hC;obtain⟨y0,hy0⟩:∃v,wr.cell? ⟨g,k*7,none⟩=some v:=⟨cur[k*7]'(by omega),by rw[ae hC];exact Array.getElem?_eq_getElem _⟩;obtain⟨y1,hy1⟩:∃v,wr.cell? ⟨g,k*7+1,none⟩=some v:=⟨cur[k*7+1]'(by omega),by rw[ae hC];exact Array.getElem?_eq_getElem _⟩;obtain⟨y2,hy2⟩:∃v,wr.cell? ⟨g,k*7+2,none⟩=some v:=⟨cur[k*7+2]'(by omega),by rw[ae hC];exact Array.getElem?_eq_getElem _⟩;obtain⟨y3,hy3⟩:∃v,wr.cell? ⟨g,k*7+3,none⟩=some v:=⟨cur[k*7+3]'(by omega),by rw[ae hC];exact Array.getElem?_eq_getElem _⟩;obtain⟨y4,hy4⟩:∃v,wr.cell? ⟨g,k*7+4,none⟩=some v:=⟨cur[k*7+4]'(by omega),by rw[ae hC];exact Array.getElem?_eq_getElem _⟩;obtain⟨wx,hwx⟩:∃wx,wx=(((((wr.setCell ⟨g,k*7,none⟩ (.int .i64 ((m:Int)))).setCell ⟨g,k*7+1,none⟩ (.int .i64 ((m:Int)+1))).setCell ⟨g,k*7+2,none⟩ (.int .i64 ((m:Int)+1+1))).setCell ⟨g,k*7+3,none⟩ (.int .i64 ((m:Int)+1+1+1))).setCell ⟨g,k*7+4,none⟩ (.int .i64 ((m:Int)+1+1+1+1))):=⟨_,rfl⟩;have hmx:Mild wr wx:=by rw[hwx];exact ((((((Mild.refl wr).set hC n0 (az _ _)).set (ak hC _) (aG n1 (az _ _)) (az _ _)).set (ak (ak hC _) _) (aG (aG n2 (az _ _)) (az _ _)) (az _ _)).set (ak (ak (ak hC _) _) _) (aG (aG (aG n3 (az _ _)) (az _ _)) (az _ _)) (az _ _)).set (ak (ak (ak (ak hC _) _) _) _) (aG (aG (aG (aG n4 (az _ _)) (az _ _)) (az _ _)) (az _ _)) (az _ _))
   have HKX:Hid (aT lo [212,114,101,163] w wx):=by show aT _ _ _ _;rw[hwx];exact (((((HK.out.set hC (by simp) hlo _ _).set (ak hC _) (by simp) hlo _ _).set (ak (ak hC _) _) (by simp) hlo _ _).set (ak (ak (ak hC _) _) _) (by simp) hlo _ _).set (ak (ak (ak (ak hC _) _) _) _) (by simp) hlo _ _)
   have HDX:=hidm (HD.out.trans hmx);have hsm:=hc xs[k] (g_m hlt);have HCK:=hidm (⟨hC,d0,d1,trivial⟩:_/\_/\_/\True);have HX:Hid (mEx xs[k]=LM mEF xs[k].frames+LM mER xs[k].recs):=rfl;have z0:wr.cell? ⟨g,k*7+5,none⟩=some (.slice (some ⟨g0,0,none⟩) xs[k].frames.length xs[k].frames.length):=by rw[ae hC];exact d0
   have hmk:=markExFrameS_m lo g0 xs[k].frames xs[k].frames.length (m+5) wx (by have a1:=HM.out;have a2:=HL.out;have a3:=H1.out;have a4:=HX.out;omega) hsm.1.1 hsm.1.2 (s0.mild hmx);have e1:((m+5:Nat):Int)=(m:Int)+1+1+1+1+1:=by omega
   rw[e1] at hmk;clear e1;have HS1:=hidm (s1.mild hmx);have HMX:=hidm hmx;clear hC hcs hcd n0 n1 n2 n3 n4 d0 d1 s0 s1 hmx;go_wp2_with fail
   rw[<-hwx];clear hwx hfz z0 hy0 hy1 hy2 hy3 hy4;refine hmk.mono ?_;rintro e w2 ⟨k1,rfl,ha,hb,hmi,hke⟩;have HE1:Hid (m+5<=k1/\k1<=m+5+10*(LM mEF xs[k].frames)):=by show _/\_;omega
   have hkz1:k1<=100000000000000:=by have a1:=HM.out;have a2:=HL.out;have a3:=H1.out;have a4:=HX.out;have a5:=HE1.out;omega
   have HK1:=hidm (HKX.out.trans hke);have HD1:=hidm (HDX.out.trans hmi);replace HMX:=hidm (HMX.out.trans hmi);replace HS1:=hidm (HS1.out.mild hmi);clear hmk ha hb hmi hke;have z1:w2.cell? ⟨g,k*7+6,none⟩=some (.slice (some ⟨g1,0,none⟩) xs[k].recs.length xs[k].recs.length):=HMX.out.slice HCK.out.1 HCK.out.2.2.1;have hmk:=markExRecS_m lo g1 xs[k].recs xs[k].recs.length k1 w2 (by have a1:=HM.out;have a2:=HL.out;have a3:=H1.out;have a4:=HX.out;have a5:=HE1.out;omega) hsm.2.1 hsm.2.2 HS1.out;go_wp2_with fail
   clear z1;refine hmk.mono ?_;rintro e w3 ⟨k2,rfl,ha,hb,hmi,hke⟩;have HE2:Hid (m+5<=k2/\k2<=m+5+10*(LM mEF xs[k].frames+LM mER xs[k].recs)):=by have a5:=HE1.out;show _/\_;omega
   have hkz2:k2<=100000000000000:=by have a1:=HM.out;have a2:=HL.out;have a3:=H1.out;have a4:=HX.out;have a5:=HE2.out;omega
   have HK2:=hidm (HK1.out.trans hke);have HD2:=hidm (HD1.out.trans hmi);clear hmk ha hb hmi hke;go_wp2;go_roundw
   case rel=>exact⟨k+1,k2,by omega,by go_num,rfl,by have a1:=HM.out;have a2:=bk mEx xs k hlt;have a4:=HX.out;have a5:=HE2.out;show _/\_;rw[a2];omega,HD2,HK2⟩
   case measure=>simp[intOf];omega
  ·have hkn:k=xs.length:=by omega
   subst hkn;go_wp2;go_ret
   refine⟨m,rfl,HM.out.1,?_,HD.out,HK.out⟩;have:=HM.out.2;rw[bZ] at this;exact this
theorem markFOpS_m(lo g:Nat)(xs:List Fo)(cap k0:Nat)(w:World)(h1:k0+10*LM mFo xs<=100000000000000)(hn:xs.length<=1048576)(hB:FoB w lo g xs) :
  Calls Tryz.prog 65 #[.slice (some ⟨g,0,none⟩) xs.length cap,.int .i64 (k0:Int)] w fun e w'=>∃k1:Nat,e=.returned (.int .i64 (k1:Int))/\k0<=k1/\k1<=k0+10*LM mFo xs/\Mild w w'/\aT lo [212,114,101,163] w w':=by
 have hlo:lo<=g:=hB.1;have H1:=hidm h1;have hle:k0<=100000000000000:=by omega
 clear h1;go_enter Tryz.func65,Tryz.ntmps65
 go_wp2;go_loopw [1,5] (fun q i wr=>∃(k:Nat) (m:Nat),k<=xs.length/\i=.int .i64 k/\q=.int .i64 (m:Int)/\Hid (k0<=m/\m<=k0+10*(k+bV mFo (xs.take k)))/\Hid (Mild w wr)/\Hid (aT lo [212,114,101,163] w wr)) (fun _ i _=>xs.length-(intOf i).toNat)
 case atStart=>exact⟨0,k0,by omega,rfl,rfl,⟨by omega,by omega⟩,Mild.refl _,aT.refl _ _ _⟩
 case round=>
  obtain⟨k,m,hk,rfl,rfl,HM,HD,HK⟩:=hrel;by_cases hlt:k<xs.length
  ·have HL:Hid (k+1+(bV mFo (xs.take k)+mFo xs[k])<=LM mFo xs):=by
    show _<=_
    rw[<-bk _ _ _ hlt];have:=eo mFo xs (k+1);unfold LM;omega
   have hmz:m<=100000000000000:=by have a1:=HM.out;have a2:=HL.out;have a3:=H1.out;omega
   obtain⟨-,cur,hC,hcs,hcd⟩:=hB.mild HD.out;obtain⟨n0,n1,n2,n3,n4,n5,n6,n7,n8,n9⟩:=hcd k hlt;have hfz:=aq hC;obtain⟨y0,hy0⟩:∃v,wr.cell? ⟨g,k*10,none⟩=some v:=⟨cur[k*10]'(by omega),by rw[ae hC];exact Array.getElem?_eq_getElem _⟩;obtain⟨y1,hy1⟩:∃v,wr.cell? ⟨g,k*10+1,none⟩=some v:=⟨cur[k*10+1]'(by omega),by rw[ae hC];exact Array.getElem?_eq_getElem _⟩;obtain⟨y2,hy2⟩:∃v,wr.cell? ⟨g,k*10+2,none⟩=some v:=⟨cur[k*10+2]'(by omega),by rw[ae hC];exact Array.getElem?_eq_getElem _⟩;obtain⟨y3,hy3⟩:∃v,wr.cell? ⟨g,k*10+3,none⟩=some v:=⟨cur[k*10+3]'(by omega),by rw[ae hC];exact Array.getElem?_eq_getElem _⟩;obtain⟨y4,hy4⟩:∃v,wr.cell? ⟨g,k*10+4,none⟩=some v:=⟨cur[k*10+4]'(by omega),by rw[ae hC];exact Array.getElem?_eq_getElem _⟩;obtain⟨y5,hy5⟩:∃v,wr.cell? ⟨g,k*10+5,none⟩=some v:=⟨cur[k*10+5]'(by omega),by rw[ae hC];exact Array.getElem?_eq_getElem _⟩;obtain⟨y6,hy6⟩:∃v,wr.cell? ⟨g,k*10+6,none⟩=some v:=⟨cur[k*10+6]'(by omega),by rw[ae hC];exact Array.getElem?_eq_getElem _⟩;obtain⟨y7,hy7⟩:∃v,wr.cell? ⟨g,k*10+7,none⟩=some v:=⟨cur[k*10+7]'(by omega),by rw[ae hC];exact Array.getElem?_eq_getElem _⟩;obtain⟨y8,hy8⟩:∃v,wr.cell? ⟨g,k*10+8,none⟩=some v:=⟨cur[k*10+8]'(by omega),by rw[ae hC];exact Array.getElem?_eq_getElem _⟩;obtain⟨wx,hwx⟩:∃wx,wx=(((((((((wr.setCell ⟨g,k*10,none⟩ (.int .i64 ((m:Int)))).setCell ⟨g,k*10+1,none⟩ (.int .i64 ((m:Int)+1))).setCell ⟨g,k*10+2,none⟩ (.int .i64 ((m:Int)+1+1))).setCell ⟨g,k*10+3,none⟩ (.int .i64 ((m:Int)+1+1+1))).setCell ⟨g,k*10+4,none⟩ (.int .i64 ((m:Int)+1+1+1+1))).setCell ⟨g,k*10+5,none⟩ (.int .i64 ((m:Int)+1+1+1+1+1))).setCell ⟨g,k*10+6,none⟩ (.int .i64 ((m:Int)+1+1+1+1+1+1))).setCell ⟨g,k*10+7,none⟩ (.int .i64 ((m:Int)+1+1+1+1+1+1+1))).setCell ⟨g,k*10+8,none⟩ (.int .i64 ((m:Int)+1+1+1+1+1+1+1+1))):=⟨_,rfl⟩
   have hmx:Mild wr wx:=by rw[hwx];exact ((((((((((Mild.refl wr).set hC n0 (az _ _)).set (ak hC _) (aG n1 (az _ _)) (az _ _)).set (ak (ak hC _) _) (aG (aG n2 (az _ _)) (az _ _)) (az _ _)).set (ak (ak (ak hC _) _) _) (aG (aG (aG n3 (az _ _)) (az _ _)) (az _ _)) (az _ _)).set (ak (ak (ak (ak hC _) _) _) _) (aG (aG (aG (aG n4 (az _ _)) (az _ _)) (az _ _)) (az _ _)) (az _ _)).set (ak (ak (ak (ak (ak hC _) _) _) _) _) (aG (aG (aG (aG (aG n5 (az _ _)) (az _ _)) (az _ _)) (az _ _)) (az _ _)) (az _ _)).set (ak (ak (ak (ak (ak (ak hC _) _) _) _) _) _) (aG (aG (aG (aG (aG (aG n6 (az _ _)) (az _ _)) (az _ _)) (az _ _)) (az _ _)) (az _ _)) (az _ _)).set (ak (ak (ak (ak (ak (ak (ak hC _) _) _) _) _) _) _) (aG (aG (aG (aG (aG (aG (aG n7 (az _ _)) (az _ _)) (az _ _)) (az _ _)) (az _ _)) (az _ _)) (az _ _)) (az _ _)).set (ak (ak (ak (ak (ak (ak (ak (ak hC _) _) _) _) _) _) _) _) (aG (aG (aG (aG (aG (aG (aG (aG n8 (az _ _)) (az _ _)) (az _ _)) (az _ _)) (az _ _)) (az _ _)) (az _ _)) (az _ _)) (az _ _))
   have HKX:Hid (aT lo [212,114,101,163] w wx):=by show aT _ _ _ _;rw[hwx];exact (((((((((HK.out.set hC (by simp) hlo _ _).set (ak hC _) (by simp) hlo _ _).set (ak (ak hC _) _) (by simp) hlo _ _).set (ak (ak (ak hC _) _) _) (by simp) hlo _ _).set (ak (ak (ak (ak hC _) _) _) _) (by simp) hlo _ _).set (ak (ak (ak (ak (ak hC _) _) _) _) _) (by simp) hlo _ _).set (ak (ak (ak (ak (ak (ak hC _) _) _) _) _) _) (by simp) hlo _ _).set (ak (ak (ak (ak (ak (ak (ak hC _) _) _) _) _) _) _) (by simp) hlo _ _).set (ak (ak (ak (ak (ak (ak (ak (ak hC _) _) _) _) _) _) _) _) (by simp) hlo _ _)
   have HDX:=hidm (HD.out.trans hmx);obtain⟨cx,hCx,hszx,-⟩:=hmx.blk _ _ _ hC;have HNX:Hid (noSl cx[k*10+9]?):=by
    obtain⟨-,c2,q1,q2,q3⟩:=hB.mild HDX.out;rw[hCx] at q1
    cases q1;exact (q3 k hlt).2.2.2.2.2.2.2.2.2
   have HMT:=hidm fun w'=>dC ((m:Int)+1+1+1+1+1+1+1+1+1) w' (by omega) (by omega)
   have hszx2:cx.size=xs.length*10:=by omega
   clear hC hcs hcd n0 n1 n2 n3 n4 n5 n6 n7 n8 n9 hmx;go_wp2_with fail
   rw[<-hwx];clear hwx hfz hy0 hy1 hy2 hy3 hy4 hy5 hy6 hy7 hy8;refine (HMT.out _).mono ?_;rintro e w2 ⟨sx,rfl,hb2⟩;have hC2:=ah hCx hb2;have hfz:=aq hC2;obtain⟨yl,hcl⟩:∃v,w2.cell? ⟨g,k*10+9,none⟩=some v:=⟨cx[k*10+9]'(by omega),by rw[ae hC2];exact Array.getElem?_eq_getElem _⟩;have HR:Hid (Mild w (w2.setCell ⟨g,k*10+9,none⟩ (.string sx))/\aT lo [212,114,101,163] w (w2.setCell ⟨g,k*10+9,none⟩ (.string sx))):=⟨(HDX.out.trans (Mild.below hb2)).set hC2 HNX.out (eU _),(HKX.out.trans (aT.below hb2)).set hC2 (by simp) hlo _ _⟩;clear hC2 hb2 hCx hszx hszx2 HMT;go_wp2;go_roundw
   case rel=>exact⟨k+1,m+10,by omega,by go_num,by go_num,by have a1:=HM.out;have a2:=bk mFo xs k hlt;show _/\_;rw[a2];omega,HR.out.1,HR.out.2⟩
   case measure=>simp[intOf];omega
  ·have hkn:k=xs.length:=by omega
   subst hkn;go_wp2;go_ret
   refine⟨m,rfl,HM.out.1,?_,HD.out,HK.out⟩;have:=HM.out.2;rw[bZ] at this;exact this
theorem markFast_m(lo g g2 oc ec k0:Nat)(d:aR)(w:World)(hd:a8 d)(h1:k0+10*mFast d<=100000000000000)(hO:FoB w lo g d.ops)(hE:ExB w lo g2 d.exits) :
  Calls Tryz.prog 17 #[.agg (aK (some ⟨g,0,none⟩) (some ⟨g2,0,none⟩) oc ec d),.int .i64 (k0:Int)] w fun e w'=>∃k1:Nat,e=.returned (.int .i64 (k1:Int))/\k0<=k1/\k1<=100000000000000/\Mild w w'/\aT lo [212,114,101,163] w w':=by
 unfold aK;have H1:Hid (k0+10*(LM mFo d.ops+LM mEx d.exits)<=100000000000000):=h1;obtain⟨wA,hwA⟩:∃wA,wA=w.alloc (.cells #[.int .i64 d.fn,.int .i64 d.entry,.int .i64 d.vals,.int .i64 d.nums,.slice (some ⟨g,0,none⟩) d.ops.length oc,.slice (some ⟨g2,0,none⟩) d.exits.length ec] 41):=⟨_,rfl⟩;have hbA:Below w.heap.size w wA:=by rw[hwA];exact b_r.alloc n_l _
 have hI:wA.heap[w.heap.size]?=some (.cells #[.int .i64 d.fn,.int .i64 d.entry,.int .i64 d.vals,.int .i64 d.nums,.slice (some ⟨g,0,none⟩) d.ops.length oc,.slice (some ⟨g2,0,none⟩) d.exits.length ec] 41 (0,0)):=by rw[hwA];exact al _ _ _
 have hk0:k0<=100000000000000:=by have:=H1.out;omega
 have hm1:=markFOpS_m lo g d.ops oc k0 wA (by have:=H1.out;omega) hd.1.1 (hO.keep (bX.below hbA));have HEA:=hidm (hE.keep (bX.below (lo:=lo) hbA));clear h1;go_enter Tryz.func17,Tryz.ntmps17
 have i1:=ae hI;go_wp2_with fail
 rw[<-hwA];refine hm1.mono ?_;rintro e w1 ⟨k1,rfl,ha,hb,hmi,hke⟩;have HE1:Hid (k0<=k1/\k1<=k0+10*LM mFo d.ops):=⟨ha,hb⟩;have hI1:=hke.cell hI (by decide);have HD:=hidm ((Mild.below hbA).trans hmi);have HK:=hidm ((aT.below (B:=lo) (ts:=[212,114,101,163]) hbA).trans hke);have hk1:k1<=100000000000000:=by have:=H1.out;omega
 have hm2:=markExitS_m lo g2 d.exits ec k1 w1 (by have:=H1.out;have:=HE1.out;omega) hd.2.1 hd.2.2 (HEA.out.mild hmi);clear hm1 hwA hbA hI i1 ha hb hmi hke;have i1:=ae hI1;go_wp2_with fail
 refine hm2.mono ?_;rintro e w2 ⟨k2,rfl,ha,hb,hmi,hke⟩;have HF:Hid (k0<=k2/\k2<=100000000000000):=by have:=H1.out;have:=HE1.out;show _/\_;omega
 have HD2:=hidm (HD.out.trans hmi);have HK2:=hidm (HK.out.trans hke);clear hm2 hI1 i1 ha hb hmi hke;go_wp2;go_ret
 exact⟨k2,rfl,HF.out.1,HF.out.2,HD2.out,HK2.out⟩
theorem markStringS_any(lo g n cap:Nat)(k0:Int)(w:World)(hn:n<=1048576)(h0:0<=k0)(h1:k0<=1000000)(hg:lo<=g)(hblk0:cn w g n) :
  Calls Tryz.prog 63 #[.slice (some ⟨g,0,none⟩) n cap,.int .i64 k0] w fun e w'=>e=.returned (.int .i64 (k0+n))/\aT lo [9] w w'/\aN w w':=by
 go_enter Tryz.func63,Tryz.ntmps63
 go_wp2;go_loopw [1,5] (fun q i wr=>∃(k:Nat),k<=n/\i=.int .i64 k/\q=.int .i64 (k0+k)/\aT lo [9] w wr/\aN w wr) (fun _ i _=>n-(intOf i).toNat)
 case atStart=>exact⟨0,by omega,rfl,by go_num,aT.refl _ _ _,aN.refl _⟩
 case round=>
  obtain⟨k,hk,rfl,rfl,hkr,hsh⟩:=hrel;by_cases hlt:k<n
  ·go_wp2_with fail
   refine (dC (k0+k) _ (by omega) (by omega)).mono ?_;rintro e w1 ⟨s,rfl,hb⟩;have hk1:aT lo [9] w w1:=hkr.trans (aT.below hb);have hs1:aN w w1:=hsh.trans (aN.below hb);obtain⟨cur,hblk,hsz⟩:=hblk0.shape hs1;have hfz:=aq hblk k;have hcl:w1.cell? ⟨g,k,none⟩=some cur[k]:=by rw[ae hblk k];simp
   go_wp2;go_roundw
   case rel=>exact⟨k+1,by omega,by go_num,by go_num,aT.set hk1 hblk (by simp) hg _ _,aN.set hs1 hblk _ _⟩
   case measure=>simp[intOf];omega
  ·go_wp2;go_ret
   exact⟨dd (by omega),hkr,hsh⟩
theorem markInsS_any(lo g n cap:Nat)(k0:Int)(w:World)(hn:n<=1048576)(h0:0<=k0)(h1:k0<=10000000000000)(hg:lo<=g)(hblk0:cf w g n) :
  Calls Tryz.prog 113 #[.slice (some ⟨g,0,none⟩) n cap,.int .i64 k0] w fun e w'=>e=.returned (.int .i64 (k0+2*n))/\aT lo [263] w w'/\aN w w':=by
 go_enter Tryz.func113,Tryz.ntmps113
 go_wp2;go_loopw [1,5] (fun q i wr=>∃(k:Nat),k<=n/\i=.int .i64 k/\q=.int .i64 (k0+2*k)/\aT lo [263] w wr/\aN w wr) (fun _ i _=>n-(intOf i).toNat)
 case atStart=>exact⟨0,by omega,rfl,by go_num,aT.refl _ _ _,aN.refl _⟩
 case round=>
  obtain⟨k,hk,rfl,rfl,hkr,hsh⟩:=hrel;by_cases hlt:k<n
  ·obtain⟨cur,hblk,hsz⟩:=hblk0.shape hsh;have hfz:=aq hblk;have hcl:wr.cell? ⟨g,k*2,none⟩=some cur[k*2]:=by rw[ae hblk];simp
   have hcl2:wr.cell? ⟨g,k*2+1,none⟩=some cur[k*2+1]:=by rw[ae hblk];simp
   go_wp2;go_roundw
   case rel=>exact⟨k+1,by omega,by go_num,by go_num,aT.set (aT.set hkr hblk (by simp) hg _ _) (ak hblk _) (by simp) hg _ _,aN.set (aN.set hsh hblk _ _) (ak hblk _) _ _⟩
   case measure=>simp[intOf];omega
  ·go_wp2;go_ret
   exact⟨dd (by omega),hkr,hsh⟩
theorem markFuncS_any(lo g cap:Nat)(fs:List Fn)(k0:Int)(w:World)(hn:fs.length<=1048576)(hc:∀f∈fs,f.code.length<=1048576)(h0:0<=k0)(h1:k0<=10000000)(hg:lo<=g)(hblk0:cM w lo g fs) :
  Calls Tryz.prog 64 #[.slice (some ⟨g,0,none⟩) fs.length cap,.int .i64 k0] w fun e w'=>∃r:Int,e=.returned (.int .i64 r)/\0<=r/\r<=10000000000000/\aT lo [263,160] w w':=by
 obtain⟨cur0,hb0,hsz0,hcode0⟩:=hblk0;go_enter Tryz.func64,Tryz.ntmps64
 go_wp2;go_loopw [1,5] (fun q i wr=>∃(k:Nat) (r:Int) (cur:Array Value),k<=fs.length/\i=.int .i64 k/\q=.int .i64 r/\0<=r/\r<=k0+k*3000000/\wr.heap[g]?=some (.cells cur 160 (0,0))/\cur.size=fs.length*3/\(∀j,j<fs.length->cur[j*3+2]?=cur0[j*3+2]?)/\aT lo [263,160] w wr/\aN w wr) (fun _ i _=>fs.length-(intOf i).toNat)
 case atStart=>exact⟨0,k0,cur0,by omega,rfl,rfl,h0,by omega,hb0,hsz0,fun _ _=>rfl,aT.refl _ _ _,aN.refl _⟩
 case round=>
  obtain⟨k,r,cur,hk,rfl,rfl,hr0,hr1,hblk,hsz,hsame,hkr,hsh⟩:=hrel;by_cases hlt:k<fs.length
  ·have hfz:=aq hblk;have hcl:wr.cell? ⟨g,k*3,none⟩=some cur[k*3]:=by rw[ae hblk];simp
   have hcl2:wr.cell? ⟨g,k*3+1,none⟩=some cur[k*3+1]:=by rw[ae hblk];simp
   obtain⟨gc,hgc,hgl,hcb⟩:=hcode0 k hlt;have hcl3:wr.cell? ⟨g,k*3+2,none⟩=some (.slice (some ⟨gc,0,none⟩) fs[k].code.length fs[k].code.length):=by rw[ae hblk,hsame k hlt,hgc]
   have hck:=hc fs[k] (g_m hlt);have hr2:r<=10000000+1048576*3000000:=by omega
   go_wp2_with fail
   have hk1:aT lo [263,160] w ((wr.setCell ⟨g,k*3,none⟩ (.int .i64 r)).setCell ⟨g,k*3+1,none⟩ (.int .i64 (r+1))):=aT.set (aT.set hkr hblk (by simp) hg _ _) (ak hblk _) (by simp) hg _ _;have hs1:aN w ((wr.setCell ⟨g,k*3,none⟩ (.int .i64 r)).setCell ⟨g,k*3+1,none⟩ (.int .i64 (r+1))):=aN.set (aN.set hsh hblk _ _) (ak hblk _) _ _;have hblk1:=ak (i:=k*3+1) (ak (i:=k*3) hblk (.int .i64 r)) (.int .i64 (r+1));refine (markInsS_any lo gc fs[k].code.length _ (r+1+1) _ hck (by omega) (by omega) hgl (hcb.shape hs1)).mono ?_;rintro e w2 ⟨rfl,hk2,hs2⟩;have hblk2:=hk2.cell hblk1 (by simp);have hk3:aT lo [263,160] w w2:=hk1.trans (hk2.mono n_l (by simp));have hs3:aN w w2:=hs1.trans hs2;clear hfz hcl hcl2 hcl3 hblk hkr hsh hk1 hs1 hblk1 hk2 hs2;go_wp2;go_roundw
   case rel=>
    refine⟨k+1,_,_,by omega,by go_num,rfl,by omega,by omega,hblk2,by simpa using hsz,fun j hj=>?_,hk3,hs3⟩;rw[aj _ (by omega),aj _ (by omega)];exact hsame j hj
   case measure=>simp[intOf];omega
  ·go_wp2;go_ret
   exact⟨r,rfl,hr0,by omega,hkr⟩
theorem markModule_any(lo g g2 c1 c2:Nat)(ts:List ByteArray)(fs:List Fn)(w:World)(hs:dm ts fs)(hg:lo<=g)(hg2:lo<=g2)(ht:cn w g ts.length)(hf:cM w lo g2 fs) :
  Calls Tryz.prog 16 #[.agg #[.slice (some ⟨g,0,none⟩) ts.length c1,.slice (some ⟨g2,0,none⟩) fs.length c2],.int .i64 1] w fun e w'=>∃r:Int,e=.returned (.int .i64 r)/\0<=r/\r<=10000000000000/\aT lo [9,263,160] w w':=by
 have s1:=hs.texts;go_enter Tryz.func16,Tryz.ntmps16
 go_wp2_with fail
 have hbA:Below w.heap.size w (w.alloc (.cells #[.slice (some ⟨g,0,none⟩) ts.length c1,.slice (some ⟨g2,0,none⟩) fs.length c2] 36)):=b_r.alloc n_l _;have hM:=al w #[.slice (some ⟨g,0,none⟩) ts.length c1,.slice (some ⟨g2,0,none⟩) fs.length c2] 36;refine (markStringS_any lo g ts.length _ 1 _ hs.texts (by omega) (by omega) hg (ht.mono hbA)).mono ?_;rintro e w1 ⟨rfl,hk1,hs1⟩;have hM1:=hk1.cell hM (by simp);have x1:=ae hM1;have hf1:cM w1 lo g2 fs:=by
  obtain⟨c,q1,q2,q3⟩:=hf.mono hbA;refine⟨c,hk1.cell q1 (by simp),q2,fun j hj=>?_⟩;obtain⟨gc,a,b,d⟩:=q3 j hj;exact⟨gc,a,b,d.shape hs1⟩
 have hk2:aT lo [9,263,160] w w1:=(aT.below hbA).trans (hk1.mono n_l (by simp));clear hM hbA;go_wp2_with fail
 refine (markFuncS_any lo g2 _ fs (1+ts.length) _ hs.funcs hs.code (by omega) (by omega) hg2 hf1).mono ?_;rintro e w2 ⟨r,rfl,hr,hrm,hk3⟩;go_wp2;go_ret
 exact⟨r,rfl,hr,hrm,hk2.trans (hk3.mono n_l (by simp))⟩
def eu (w:World)(g n:Nat):Prop:=∃cur:Array Value,w.heap[g]?=some (.cells cur 3 (0,0))/\cur.size=n
theorem eu.mono{w w':World}{g n:Nat}(h:eu w g n)(hb:Below w.heap.size w w'):eu w' g n:=by
 obtain⟨c,h1,h2⟩:=h;exact⟨c,ah h1 hb,h2⟩
theorem dM(a:Option Addr)(xs:List Int)(cap:Nat)(w:World)(hn:xs.length<=1048576)(hm:a9 w 0 a xs) :
  Calls Tryz.prog 29 #[.slice a xs.length cap] w fun e w'=>e=.returned (.slice (some ⟨w.heap.size,0,none⟩) xs.length xs.length)/\a9 w' w.heap.size (some ⟨w.heap.size,0,none⟩) xs/\eu w' w.heap.size xs.length/\Below w.heap.size w w':=by
 obtain⟨i0,hi,hz0,hz1,hz2⟩:=info_parts info3;go_enter Tryz.func29,Tryz.ntmps29
 go_wp2_with (first | (at_make;refine wpList_make_full _ rfl _ _ 50 rfl w.heap.size 3 i0 (.int .i64 0) 1 Tryz.underlying50 hi hz0 hz1 _ _ _ _ xs.length rfl rfl rfl rfl (by rw[hz2];omega) (by unfold maxLen;omega) n_l ?_;intro w1 hown hgrow))
 obtain⟨cur0,hblk,hsz⟩:=aY hown;have hb0:Below w.heap.size w w1:=b_r.grown hgrow n_l (by intro k hk;cases hk);clear hown hgrow hi hz0 hz1 hz2;go_loopw [4] (fun i wr=>∃(k:Nat) (cur:Array Value),k<=xs.length/\i=.int .i64 k/\wr.heap[w.heap.size]?=some (.cells cur 3 (0,0))/\cur.size=xs.length/\(∀j (hj:j<xs.length),j<k->cur[j]?=some (.int .i64 xs[j]))/\Below w.heap.size w wr) (fun i _=>xs.length-(intOf i).toNat)
 case atStart=>exact⟨0,cur0,by omega,rfl,hblk,by simpa using hsz,fun j _ h=>by omega,hb0⟩
 case round=>
  obtain⟨k,cur,hk,rfl,hblk,hsz,hdone,hb⟩:=hrel;by_cases hlt:k<xs.length
  ·obtain⟨b,off,rfl,-,c1⟩:=hm k hlt;have c1':=cell_later hb c1;clear c1;have hfz:=aq hblk;have hcl:wr.cell? ⟨w.heap.size,k,none⟩=some cur[k]:=by rw[ae hblk];simp
   have HD:=hdone;clear hdone;have HH:Hid (∀j (hj:j<xs.length),j<k->cur[j]?=some (.int .i64 xs[j])):=HD;clear HD;go_wp2;go_roundw
   case rel=>
    refine⟨k+1,cur.setIfInBounds k (.int .i64 xs[k]),by omega,by go_num,ak hblk _,by simpa using hsz,?_,hb.setCell n_l _⟩;intro j hj hjk;by_cases e:j=k
    ·subst e;exact aC _ (by omega)
    ·rw[aj _ e];exact HH.out j hj (by omega)
   case measure=>simp[intOf];omega
  ·have HF:Hid (a9 wr w.heap.size (some ⟨w.heap.size,0,none⟩) xs/\eu wr w.heap.size xs.length):=⟨fun j hj=>⟨w.heap.size,0,rfl,Nat.le_refl _,by rw[ae hblk,Nat.zero_add];exact hdone j hj (by omega)⟩,cur,hblk,hsz⟩;clear hdone;go_wp2;go_ret
   exact⟨rfl,HF.out.1,HF.out.2,hb⟩
theorem markIntS_w(lo g n cap k0:Nat)(w:World)(hn:n<=1048576)(h1:k0<=200000000000000)(hl:lo<=g)(hB:eu w g n) :
  Calls Tryz.prog 23 #[.slice (some ⟨g,0,none⟩) n cap,.int .i64 (k0:Int)] w fun e w'=>e=.returned (.int .i64 ((k0+n:Nat):Int))/\aT lo [3] w w':=by
 obtain⟨cur0,hblk0,hsz0⟩:=hB;go_enter Tryz.func23,Tryz.ntmps23
 go_wp2;go_loopw [1,5] (fun q i wr=>∃(k:Nat) (cur:Array Value),k<=n/\i=.int .i64 k/\q=.int .i64 ((k0+k:Nat):Int)/\wr.heap[g]?=some (.cells cur 3 (0,0))/\cur.size=n/\aT lo [3] w wr) (fun _ i _=>n-(intOf i).toNat)
 case atStart=>exact⟨0,cur0,by omega,rfl,by go_num,hblk0,hsz0,aT.refl _ _ _⟩
 case round=>
  obtain⟨k,cur,hk,rfl,rfl,hblk,hsz,hkr⟩:=hrel;by_cases hlt:k<n
  ·have hfz:=aq hblk;have hcl:wr.cell? ⟨g,k,none⟩=some cur[k]:=by rw[ae hblk];simp
   have hk2:=aT.set hkr hblk (by simp) hl k (.int .i64 ((k0+k:Nat):Int));have hb2:=ak (i:=k) hblk (.int .i64 ((k0+k:Nat):Int));go_wp2;go_roundw
   case rel=>exact⟨k+1,_,by omega,by go_num,by go_num,hb2,by simpa using hsz,hk2⟩
   case measure=>simp[intOf];omega
  ·have e:k=n:=by omega
   subst e;go_wp2;go_ret
   exact⟨rfl,hkr⟩
end Go.Proofs.YtbjmgmmekmfjhaaGreatDoor
namespace Go.Proofs.YtbjmgmmekmfjhaaGreatDoor
open Go.RowKit Go.Deep Go.ChangeShapes Go.WideShapes Go.Joins
theorem kc3:Tryz.prog.cellsOf 3=1:=by kernel_rfl
theorem kc9:Tryz.prog.cellsOf 9=1:=by kernel_rfl
theorem kc26:Tryz.prog.cellsOf 26=1:=by kernel_rfl
theorem kc27:Tryz.prog.cellsOf 27=1:=by kernel_rfl
theorem kc29:Tryz.prog.cellsOf 29=6:=by kernel_rfl
theorem kc75:Tryz.prog.cellsOf 75=3:=by kernel_rfl
theorem kc150:Tryz.prog.cellsOf 150=10:=by kernel_rfl
theorem kc152:Tryz.prog.cellsOf 152=4:=by kernel_rfl
theorem kc153:Tryz.prog.cellsOf 153=1:=by kernel_rfl
theorem kc154:Tryz.prog.cellsOf 154=1:=by kernel_rfl
theorem kc156:Tryz.prog.cellsOf 156=7:=by kernel_rfl
theorem kc281:Tryz.prog.cellsOf 281=1:=by kernel_rfl
theorem kc283:Tryz.prog.cellsOf 283=4:=by kernel_rfl
theorem kc286:Tryz.prog.cellsOf 286=1:=by kernel_rfl
theorem kc383:Tryz.prog.cellsOf 383=5:=by kernel_rfl
theorem list1{α:Type}{l:List α}(h:l.length=1):∃v0,l=[v0]:=by
 match l,h with
 | [v0],_=>exact⟨v0,rfl⟩
theorem list4{α:Type}{l:List α}(h:l.length=4):∃v0 v1 v2 v3,l=[v0,v1,v2,v3]:=by
 match l,h with
 | [v0,v1,v2,v3],_=>exact⟨v0,v1,v2,v3,rfl⟩
theorem list5{α:Type}{l:List α}(h:l.length=5):∃v0 v1 v2 v3 v4,l=[v0,v1,v2,v3,v4]:=by
 match l,h with
 | [v0,v1,v2,v3,v4],_=>exact⟨v0,v1,v2,v3,v4,rfl⟩
theorem list7{α:Type}{l:List α}(h:l.length=7):∃v0 v1 v2 v3 v4 v5 v6,l=[v0,v1,v2,v3,v4,v5,v6]:=by
 match l,h with
 | [v0,v1,v2,v3,v4,v5,v6],_=>exact⟨v0,v1,v2,v3,v4,v5,v6,rfl⟩
theorem list10{α:Type}{l:List α}(h:l.length=10):∃v0 v1 v2 v3 v4 v5 v6 v7 v8 v9,l=[v0,v1,v2,v3,v4,v5,v6,v7,v8,v9]:=by
 match l,h with
 | [v0,v1,v2,v3,v4,v5,v6,v7,v8,v9],_=>exact⟨v0,v1,v2,v3,v4,v5,v6,v7,v8,v9,rfl⟩
section
variable {H:Type} {enc:TypeId×Value->H} {w:World} {base:Nat} {spare:Nat->Bool} {held:Bool}
theorem f7{fuel:Nat}{v:Value}{y:DataW H×List MemPlace}(h:DataW.trod enc Tryz.prog w base spare held fuel 281 [v]=some y) :
  ∃a cap xs,v=.slice a xs.length cap/\LMax gj xs/\bD w 0 a xs:=by
 rcases open_slice Tryz.underlying281 h with ⟨hcs,-⟩ | ⟨a,len,cap,m,n,D,Pl,hcs,-,hl,hm,hmm,-,hx⟩
 ·simp at hcs
  exact⟨none,0,[],by simpa using hcs,⟨by simp,by simp⟩,fun i hi=>by simp at hi⟩
 ·simp at hcs
  have hlm:len<=m:=by rw[hmm];split<;>omega
  have inh:Inhabited Sr:=⟨⟨0,0,⟨0,0,⟨#[]⟩⟩⟩⟩;have hplain:∀i,i<m->∃b off,a=⟨b,off,none⟩:=fun i hi=>by
   obtain⟨cs',h1,-⟩:=hx 0 (by omega);rw[kc383] at h1;obtain⟨_,hlen,hcell⟩:=World.cells?_some h1;have e0:=hcell 0 (by omega);rw[add_add] at e0;obtain⟨v0,v1,v2,v3,v4,rfl⟩:=list5 hlen;exact ch (by simpa using e0)
  obtain⟨q,hq⟩:=choose_lt (α:=Sr) (n:=m) (p:=fun i z=>gj z/\∃b off,a=⟨b,off,none⟩/\w.cell? ⟨b,off+i*5,none⟩=some (.int .i64 z.k)/\w.cell? ⟨b,off+i*5+1,none⟩=some (.int .i64 z.n)/\w.cell? ⟨b,off+i*5+2,none⟩=some (.int .i64 z.v.k)/\w.cell? ⟨b,off+i*5+3,none⟩=some (.int .i64 z.v.n)/\w.cell? ⟨b,off+i*5+4,none⟩=some (.string z.v.s)) (fun i hi=>by
   obtain⟨cs',h1,h2⟩:=hx i hi;rw[kc383] at h1;obtain⟨_,hlen,hcell⟩:=World.cells?_some h1;obtain⟨v0,v1,v2,v3,v4,rfl⟩:=list5 hlen;obtain⟨xs,n',-,-,-,hxl0,hf⟩:=DataW.trod_struct Tryz.underlying383 h2;have hxl:xs.length=3:=hxl0;have get:∀i (hi:i<3),xs[i]?=some (xs[i]'(by omega)):=fun i hi=>List.getElem?_eq_getElem (by omega)
   have t0:DataW.trod enc Tryz.prog w base spare held n' 3 [v0]=some (xs[0]'(by omega)):=by rw[<-get 0 (by omega)];simpa[kc3] using hf 0 _ rfl
   have t1:DataW.trod enc Tryz.prog w base spare held n' 3 [v1]=some (xs[1]'(by omega)):=by rw[<-get 1 (by omega)];simpa[kc3] using hf 1 _ rfl
   have t2:DataW.trod enc Tryz.prog w base spare held n' 75 [v2,v3,v4]=some (xs[2]'(by omega)):=by rw[<-get 2 (by omega)];simpa[kc75] using hf 2 _ rfl
   obtain⟨z0,x0,-⟩:=DataW.trod_int Tryz.underlying3 t0;obtain⟨z1,x1,-⟩:=DataW.trod_int Tryz.underlying3 t1;obtain⟨_,_,_,_,-,-,u0,u1,u2⟩:=trod_struct3 Tryz.underlying75 t2;simp[kc3,kc9] at u0 u1 u2
   obtain⟨z2,x2,-⟩:=DataW.trod_int Tryz.underlying3 u0;obtain⟨z3,x3,-⟩:=DataW.trod_int Tryz.underlying3 u1;obtain⟨z4,x4,-,hz4⟩:=DataW.trod_string Tryz.underlying9 u2;simp only[List.cons.injEq,and_true] at x0 x1 x2 x3 x4
   subst x0 x1 x2 x3 x4;have e0:=hcell 0 (by omega);have e1:=hcell 1 (by omega);have e2:=hcell 2 (by omega);have e3:=hcell 3 (by omega);have e4:=hcell 4 (by omega);rw[add_add] at e0 e1 e2 e3 e4;simp at e0 e1 e2 e3 e4
   obtain⟨b,off,rfl⟩:=hplain i hi;rw[Go.WideShapes.add_plain] at e0;rw[Go.WideShapes.add_plain,<-Nat.add_assoc] at e1 e2 e3 e4;exact⟨⟨z0,z1,⟨z2,z3,z4⟩⟩,hz4,b,off,rfl,e0,e1,e2,e3,e4⟩)
  refine⟨some a,cap,(List.range len).map q,by simpa using hcs,⟨by simp;omega,?_⟩,?_⟩
  ·intro f hf;obtain⟨i,hi,rfl⟩:=List.mem_map.1 hf;exact (hq i (by have:=List.mem_range.1 hi;omega)).1
  ·intro i hi;have hi':i<len:=by simpa using hi
   obtain⟨-,b,off,rfl,r0,r1,r2,r3,r4⟩:=hq i (by omega);exact⟨b,off,rfl,Nat.zero_le _,by simpa using r0,by simpa using r1,by simpa using r2,by simpa using r3,by simpa using r4⟩
theorem read_efs{fuel:Nat}{v:Value}{y:DataW H×List MemPlace}(h:DataW.trod enc Tryz.prog w base spare held fuel 153 [v]=some y) :
  ∃a cap xs,v=.slice a xs.length cap/\LMax gZ xs/\cg w 0 a xs:=by
 rcases open_slice Tryz.underlying153 h with ⟨hcs,-⟩ | ⟨a,len,cap,m,n,D,Pl,hcs,-,hl,hm,hmm,-,hx⟩
 ·simp at hcs
  exact⟨none,0,[],by simpa using hcs,⟨by simp,by simp⟩,fun i hi=>by simp at hi⟩
 ·simp at hcs
  have hlm:len<=m:=by rw[hmm];split<;>omega
  have inh:Inhabited EF:=⟨⟨0,0,[],[]⟩⟩;have hplain:∀i,i<m->∃b off,a=⟨b,off,none⟩:=fun i hi=>by
   obtain⟨cs',h1,-⟩:=hx 0 (by omega);rw[kc283] at h1;obtain⟨_,hlen,hcell⟩:=World.cells?_some h1;have e0:=hcell 0 (by omega);rw[add_add] at e0;obtain⟨v0,v1,v2,v3,rfl⟩:=list4 hlen;exact ch (by simpa using e0)
  obtain⟨q,hq⟩:=choose_lt (α:=EF) (n:=m) (p:=fun i z=>gZ z/\∃b off a0 c0 a1 c1,a=⟨b,off,none⟩/\w.cell? ⟨b,off+i*4,none⟩=some (.int .i64 z.fn)/\w.cell? ⟨b,off+i*4+1,none⟩=some (.int .i64 z.pc)/\w.cell? ⟨b,off+i*4+2,none⟩=some (.slice a0 z.locals.length c0)/\w.cell? ⟨b,off+i*4+3,none⟩=some (.slice a1 z.stack.length c1)/\bD w 0 a0 z.locals/\bD w 0 a1 z.stack) (fun i hi=>by
   obtain⟨cs',h1,h2⟩:=hx i hi;rw[kc283] at h1;obtain⟨_,hlen,hcell⟩:=World.cells?_some h1;obtain⟨v0,v1,v2,v3,rfl⟩:=list4 hlen;obtain⟨xs,n',-,-,-,hxl0,hf⟩:=DataW.trod_struct Tryz.underlying283 h2;have hxl:xs.length=4:=hxl0;have get:∀i (hi:i<4),xs[i]?=some (xs[i]'(by omega)):=fun i hi=>List.getElem?_eq_getElem (by omega)
   have t0:DataW.trod enc Tryz.prog w base spare held n' 3 [v0]=some (xs[0]'(by omega)):=by rw[<-get 0 (by omega)];simpa[kc3] using hf 0 _ rfl
   have t1:DataW.trod enc Tryz.prog w base spare held n' 3 [v1]=some (xs[1]'(by omega)):=by rw[<-get 1 (by omega)];simpa[kc3] using hf 1 _ rfl
   have t2:DataW.trod enc Tryz.prog w base spare held n' 281 [v2]=some (xs[2]'(by omega)):=by rw[<-get 2 (by omega)];simpa[kc281] using hf 2 _ rfl
   have t3:DataW.trod enc Tryz.prog w base spare held n' 281 [v3]=some (xs[3]'(by omega)):=by rw[<-get 3 (by omega)];simpa[kc281] using hf 3 _ rfl
   obtain⟨z0,x0,-⟩:=DataW.trod_int Tryz.underlying3 t0;obtain⟨z1,x1,-⟩:=DataW.trod_int Tryz.underlying3 t1;obtain⟨a0,c0,l0,x2,hl0,hat0⟩:=f7 t2;obtain⟨a1,c1,l1,x3,hl1,hat1⟩:=f7 t3;simp only[List.cons.injEq,and_true] at x0 x1
   subst x0 x1 x2 x3;have e0:=hcell 0 (by omega);have e1:=hcell 1 (by omega);have e2:=hcell 2 (by omega);have e3:=hcell 3 (by omega);rw[add_add] at e0 e1 e2 e3;simp at e0 e1 e2 e3
   obtain⟨b,off,rfl⟩:=hplain i hi;rw[Go.WideShapes.add_plain] at e0;rw[Go.WideShapes.add_plain,<-Nat.add_assoc] at e1 e2 e3;exact⟨⟨z0,z1,l0,l1⟩,⟨hl0,hl1⟩,b,off,a0,c0,a1,c1,rfl,e0,e1,e2,e3,hat0,hat1⟩)
  refine⟨some a,cap,(List.range len).map q,by simpa using hcs,⟨by simp;omega,?_⟩,?_⟩
  ·intro f hf;obtain⟨i,hi,rfl⟩:=List.mem_map.1 hf;exact (hq i (by have:=List.mem_range.1 hi;omega)).1
  ·intro i hi;have hi':i<len:=by simpa using hi
   obtain⟨-,b,off,a0,c0,a1,c1,rfl,r0,r1,r2,r3,r4,r5⟩:=hq i (by omega);exact⟨b,off,a0,c0,a1,c1,rfl,Nat.zero_le _,by simpa using r0,by simpa using r1,by simpa using r2,by simpa using r3,by simpa using r4,by simpa using r5⟩
theorem read_ers{fuel:Nat}{v:Value}{y:DataW H×List MemPlace}(h:DataW.trod enc Tryz.prog w base spare held fuel 154 [v]=some y) :
  ∃a cap xs,v=.slice a xs.length cap/\LMax gK xs/\cj w 0 a xs:=by
 rcases open_slice Tryz.underlying154 h with ⟨hcs,-⟩ | ⟨a,len,cap,m,n,D,Pl,hcs,-,hl,hm,hmm,-,hx⟩
 ·simp at hcs
  exact⟨none,0,[],by simpa using hcs,⟨by simp,by simp⟩,fun i hi=>by simp at hi⟩
 ·simp at hcs
  have hlm:len<=m:=by rw[hmm];split<;>omega
  have inh:Inhabited ER:=⟨⟨[]⟩⟩;have hplain:∀i,i<m->∃b off,a=⟨b,off,none⟩:=fun i hi=>by
   obtain⟨cs',h1,-⟩:=hx 0 (by omega);rw[kc286] at h1;obtain⟨_,hlen,hcell⟩:=World.cells?_some h1;have e0:=hcell 0 (by omega);rw[add_add] at e0;obtain⟨v0,rfl⟩:=list1 hlen;exact ch (by simpa using e0)
  obtain⟨q,hq⟩:=choose_lt (α:=ER) (n:=m) (p:=fun i z=>gK z/\∃b off a0 c0,a=⟨b,off,none⟩/\w.cell? ⟨b,off+i,none⟩=some (.slice a0 z.fields.length c0)/\bD w 0 a0 z.fields) (fun i hi=>by
   obtain⟨cs',h1,h2⟩:=hx i hi;rw[kc286] at h1;obtain⟨_,hlen,hcell⟩:=World.cells?_some h1;obtain⟨v0,rfl⟩:=list1 hlen;obtain⟨xs,n',-,-,-,hxl0,hf⟩:=DataW.trod_struct Tryz.underlying286 h2;have hxl:xs.length=1:=hxl0;have get:∀i (hi:i<1),xs[i]?=some (xs[i]'(by omega)):=fun i hi=>List.getElem?_eq_getElem (by omega)
   have t0:DataW.trod enc Tryz.prog w base spare held n' 281 [v0]=some (xs[0]'(by omega)):=by rw[<-get 0 (by omega)];simpa[kc281] using hf 0 _ rfl
   obtain⟨a0,c0,l0,x0,hl0,hat0⟩:=f7 t0;subst x0;have e0:=hcell 0 (by omega);rw[add_add] at e0;simp at e0
   obtain⟨b,off,rfl⟩:=hplain i hi;rw[Go.WideShapes.add_plain] at e0;exact⟨⟨l0⟩,hl0,b,off,a0,c0,rfl,e0,hat0⟩)
  refine⟨some a,cap,(List.range len).map q,by simpa using hcs,⟨by simp;omega,?_⟩,?_⟩
  ·intro f hf;obtain⟨i,hi,rfl⟩:=List.mem_map.1 hf;exact (hq i (by have:=List.mem_range.1 hi;omega)).1
  ·intro i hi;have hi':i<len:=by simpa using hi
   obtain⟨-,b,off,a0,c0,rfl,r0,r1⟩:=hq i (by omega);exact⟨b,off,a0,c0,rfl,Nat.zero_le _,by simpa using r0,by simpa using r1⟩
theorem read_exs{fuel:Nat}{v:Value}{y:DataW H×List MemPlace}(h:DataW.trod enc Tryz.prog w base spare held fuel 27 [v]=some y) :
  ∃a cap xs,v=.slice a xs.length cap/\LMax gS xs/\cZ w 0 a xs:=by
 rcases open_slice Tryz.underlying27 h with ⟨hcs,-⟩ | ⟨a,len,cap,m,n,D,Pl,hcs,-,hl,hm,hmm,-,hx⟩
 ·simp at hcs
  exact⟨none,0,[],by simpa using hcs,⟨by simp,by simp⟩,fun i hi=>by simp at hi⟩
 ·simp at hcs
  have hlm:len<=m:=by rw[hmm];split<;>omega
  have inh:Inhabited Ex:=⟨⟨0,⟨0,0,0,0⟩,[],[]⟩⟩;have hplain:∀i,i<m->∃b off,a=⟨b,off,none⟩:=fun i hi=>by
   obtain⟨cs',h1,-⟩:=hx 0 (by omega);rw[kc156] at h1;obtain⟨_,hlen,hcell⟩:=World.cells?_some h1;have e0:=hcell 0 (by omega);rw[add_add] at e0;obtain⟨v0,v1,v2,v3,v4,v5,v6,rfl⟩:=list7 hlen;exact ch (by simpa using e0)
  obtain⟨q,hq⟩:=choose_lt (α:=Ex) (n:=m) (p:=fun i z=>gS z/\∃b off a0 c0 a1 c1,a=⟨b,off,none⟩/\w.cell? ⟨b,off+i*7,none⟩=some (.int .i64 z.kind)/\w.cell? ⟨b,off+i*7+1,none⟩=some (.int .i64 z.spec.f)/\w.cell? ⟨b,off+i*7+2,none⟩=some (.int .i64 z.spec.pc)/\w.cell? ⟨b,off+i*7+3,none⟩=some (.int .i64 z.spec.seen)/\w.cell? ⟨b,off+i*7+4,none⟩=some (.int .i64 z.spec.target)/\w.cell? ⟨b,off+i*7+5,none⟩=some (.slice a0 z.frames.length c0)/\w.cell? ⟨b,off+i*7+6,none⟩=some (.slice a1 z.recs.length c1)/\cg w 0 a0 z.frames/\cj w 0 a1 z.recs) (fun i hi=>by
   obtain⟨cs',h1,h2⟩:=hx i hi;rw[kc156] at h1;obtain⟨_,hlen,hcell⟩:=World.cells?_some h1;obtain⟨v0,v1,v2,v3,v4,v5,v6,rfl⟩:=list7 hlen;obtain⟨xs,n',-,-,-,hxl0,hf⟩:=DataW.trod_struct Tryz.underlying156 h2;have hxl:xs.length=4:=hxl0;have get:∀i (hi:i<4),xs[i]?=some (xs[i]'(by omega)):=fun i hi=>List.getElem?_eq_getElem (by omega)
   have t0:DataW.trod enc Tryz.prog w base spare held n' 3 [v0]=some (xs[0]'(by omega)):=by rw[<-get 0 (by omega)];simpa[kc3] using hf 0 _ rfl
   have t1:DataW.trod enc Tryz.prog w base spare held n' 152 [v1,v2,v3,v4]=some (xs[1]'(by omega)):=by rw[<-get 1 (by omega)];simpa[kc152] using hf 1 _ rfl
   have t2:DataW.trod enc Tryz.prog w base spare held n' 153 [v5]=some (xs[2]'(by omega)):=by rw[<-get 2 (by omega)];simpa[kc153] using hf 2 _ rfl
   have t3:DataW.trod enc Tryz.prog w base spare held n' 154 [v6]=some (xs[3]'(by omega)):=by rw[<-get 3 (by omega)];simpa[kc154] using hf 3 _ rfl
   obtain⟨z0,x0,-⟩:=DataW.trod_int Tryz.underlying3 t0;obtain⟨_,_,_,_,_,-,-,u0,u1,u2,u3⟩:=trod_struct4 Tryz.underlying152 t1;simp[kc3] at u0 u1 u2 u3
   obtain⟨z1,x1,-⟩:=DataW.trod_int Tryz.underlying3 u0;obtain⟨z2,x2,-⟩:=DataW.trod_int Tryz.underlying3 u1;obtain⟨z3,x3,-⟩:=DataW.trod_int Tryz.underlying3 u2;obtain⟨z4,x4,-⟩:=DataW.trod_int Tryz.underlying3 u3;obtain⟨a0,c0,l0,x5,hl0,hat0⟩:=read_efs t2;obtain⟨a1,c1,l1,x6,hl1,hat1⟩:=read_ers t3;simp only[List.cons.injEq,and_true] at x0 x1 x2 x3 x4
   subst x0 x1 x2 x3 x4 x5 x6;have e0:=hcell 0 (by omega);have e1:=hcell 1 (by omega);have e2:=hcell 2 (by omega);have e3:=hcell 3 (by omega);have e4:=hcell 4 (by omega);have e5:=hcell 5 (by omega);have e6:=hcell 6 (by omega);rw[add_add] at e0 e1 e2 e3 e4 e5 e6;simp at e0 e1 e2 e3 e4 e5 e6
   obtain⟨b,off,rfl⟩:=hplain i hi;rw[Go.WideShapes.add_plain] at e0;rw[Go.WideShapes.add_plain,<-Nat.add_assoc] at e1 e2 e3 e4 e5 e6;exact⟨⟨z0,⟨z1,z2,z3,z4⟩,l0,l1⟩,⟨hl0,hl1⟩,b,off,a0,c0,a1,c1,rfl,e0,e1,e2,e3,e4,e5,e6,hat0,hat1⟩)
  refine⟨some a,cap,(List.range len).map q,by simpa using hcs,⟨by simp;omega,?_⟩,?_⟩
  ·intro f hf;obtain⟨i,hi,rfl⟩:=List.mem_map.1 hf;exact (hq i (by have:=List.mem_range.1 hi;omega)).1
  ·intro i hi;have hi':i<len:=by simpa using hi
   obtain⟨-,b,off,a0,c0,a1,c1,rfl,r0,r1,r2,r3,r4,r5,r6,r7,r8⟩:=hq i (by omega);exact⟨b,off,a0,c0,a1,c1,rfl,Nat.zero_le _,by simpa using r0,by simpa using r1,by simpa using r2,by simpa using r3,by simpa using r4,by simpa using r5,by simpa using r6,by simpa using r7,by simpa using r8⟩
theorem read_fos{fuel:Nat}{v:Value}{y:DataW H×List MemPlace}(h:DataW.trod enc Tryz.prog w base spare held fuel 26 [v]=some y) :
  ∃a cap xs,v=.slice a xs.length cap/\LMax gG xs/\cV w 0 a xs:=by
 rcases open_slice Tryz.underlying26 h with ⟨hcs,-⟩ | ⟨a,len,cap,m,n,D,Pl,hcs,-,hl,hm,hmm,-,hx⟩
 ·simp at hcs
  exact⟨none,0,[],by simpa using hcs,⟨by simp,by simp⟩,fun i hi=>by simp at hi⟩
 ·simp at hcs
  have hlm:len<=m:=by rw[hmm];split<;>omega
  have inh:Inhabited Fo:=⟨⟨0,0,0,0,0,0,0,⟨0,0,⟨#[]⟩⟩⟩⟩;have hplain:∀i,i<m->∃b off,a=⟨b,off,none⟩:=fun i hi=>by
   obtain⟨cs',h1,-⟩:=hx 0 (by omega);rw[kc150] at h1;obtain⟨_,hlen,hcell⟩:=World.cells?_some h1;have e0:=hcell 0 (by omega);rw[add_add] at e0;obtain⟨v0,v1,v2,v3,v4,v5,v6,v7,v8,v9,rfl⟩:=list10 hlen;exact ch (by simpa using e0)
  obtain⟨q,hq⟩:=choose_lt (α:=Fo) (n:=m) (p:=fun i z=>gG z/\∃b off,a=⟨b,off,none⟩/\w.cell? ⟨b,off+i*10,none⟩=some (.int .i64 z.op)/\w.cell? ⟨b,off+i*10+1,none⟩=some (.int .i64 z.d)/\w.cell? ⟨b,off+i*10+2,none⟩=some (.int .i64 z.a)/\w.cell? ⟨b,off+i*10+3,none⟩=some (.int .i64 z.b)/\w.cell? ⟨b,off+i*10+4,none⟩=some (.int .i64 z.x)/\w.cell? ⟨b,off+i*10+5,none⟩=some (.int .i64 z.f)/\w.cell? ⟨b,off+i*10+6,none⟩=some (.int .i64 z.p)/\w.cell? ⟨b,off+i*10+7,none⟩=some (.int .i64 z.v.k)/\w.cell? ⟨b,off+i*10+8,none⟩=some (.int .i64 z.v.n)/\w.cell? ⟨b,off+i*10+9,none⟩=some (.string z.v.s)) (fun i hi=>by
   obtain⟨cs',h1,h2⟩:=hx i hi;rw[kc150] at h1;obtain⟨_,hlen,hcell⟩:=World.cells?_some h1;obtain⟨v0,v1,v2,v3,v4,v5,v6,v7,v8,v9,rfl⟩:=list10 hlen;obtain⟨xs,n',-,-,-,hxl0,hf⟩:=DataW.trod_struct Tryz.underlying150 h2;have hxl:xs.length=8:=hxl0;have get:∀i (hi:i<8),xs[i]?=some (xs[i]'(by omega)):=fun i hi=>List.getElem?_eq_getElem (by omega)
   have t0:DataW.trod enc Tryz.prog w base spare held n' 3 [v0]=some (xs[0]'(by omega)):=by rw[<-get 0 (by omega)];simpa[kc3] using hf 0 _ rfl
   have t1:DataW.trod enc Tryz.prog w base spare held n' 3 [v1]=some (xs[1]'(by omega)):=by rw[<-get 1 (by omega)];simpa[kc3] using hf 1 _ rfl
   have t2:DataW.trod enc Tryz.prog w base spare held n' 3 [v2]=some (xs[2]'(by omega)):=by rw[<-get 2 (by omega)];simpa[kc3] using hf 2 _ rfl
   have t3:DataW.trod enc Tryz.prog w base spare held n' 3 [v3]=some (xs[3]'(by omega)):=by rw[<-get 3 (by omega)];simpa[kc3] using hf 3 _ rfl
   have t4:DataW.trod enc Tryz.prog w base spare held n' 3 [v4]=some (xs[4]'(by omega)):=by rw[<-get 4 (by omega)];simpa[kc3] using hf 4 _ rfl
   have t5:DataW.trod enc Tryz.prog w base spare held n' 3 [v5]=some (xs[5]'(by omega)):=by rw[<-get 5 (by omega)];simpa[kc3] using hf 5 _ rfl
   have t6:DataW.trod enc Tryz.prog w base spare held n' 3 [v6]=some (xs[6]'(by omega)):=by rw[<-get 6 (by omega)];simpa[kc3] using hf 6 _ rfl
   have t7:DataW.trod enc Tryz.prog w base spare held n' 75 [v7,v8,v9]=some (xs[7]'(by omega)):=by rw[<-get 7 (by omega)];simpa[kc75] using hf 7 _ rfl
   obtain⟨z0,x0,-⟩:=DataW.trod_int Tryz.underlying3 t0;obtain⟨z1,x1,-⟩:=DataW.trod_int Tryz.underlying3 t1;obtain⟨z2,x2,-⟩:=DataW.trod_int Tryz.underlying3 t2;obtain⟨z3,x3,-⟩:=DataW.trod_int Tryz.underlying3 t3;obtain⟨z4,x4,-⟩:=DataW.trod_int Tryz.underlying3 t4;obtain⟨z5,x5,-⟩:=DataW.trod_int Tryz.underlying3 t5;obtain⟨z6,x6,-⟩:=DataW.trod_int Tryz.underlying3 t6;obtain⟨_,_,_,_,-,-,u0,u1,u2⟩:=trod_struct3 Tryz.underlying75 t7;simp[kc3,kc9] at u0 u1 u2
   obtain⟨z7,x7,-⟩:=DataW.trod_int Tryz.underlying3 u0;obtain⟨z8,x8,-⟩:=DataW.trod_int Tryz.underlying3 u1;obtain⟨z9,x9,-,hz9⟩:=DataW.trod_string Tryz.underlying9 u2;simp only[List.cons.injEq,and_true] at x0 x1 x2 x3 x4 x5 x6 x7 x8 x9
   subst x0 x1 x2 x3 x4 x5 x6 x7 x8 x9;have e0:=hcell 0 (by omega);have e1:=hcell 1 (by omega);have e2:=hcell 2 (by omega);have e3:=hcell 3 (by omega);have e4:=hcell 4 (by omega);have e5:=hcell 5 (by omega);have e6:=hcell 6 (by omega);have e7:=hcell 7 (by omega);have e8:=hcell 8 (by omega);have e9:=hcell 9 (by omega);rw[add_add] at e0 e1 e2 e3 e4 e5 e6 e7 e8 e9;simp at e0 e1 e2 e3 e4 e5 e6 e7 e8 e9
   obtain⟨b,off,rfl⟩:=hplain i hi;rw[Go.WideShapes.add_plain] at e0;rw[Go.WideShapes.add_plain,<-Nat.add_assoc] at e1 e2 e3 e4 e5 e6 e7 e8 e9;exact⟨⟨z0,z1,z2,z3,z4,z5,z6,⟨z7,z8,z9⟩⟩,hz9,b,off,rfl,e0,e1,e2,e3,e4,e5,e6,e7,e8,e9⟩)
  refine⟨some a,cap,(List.range len).map q,by simpa using hcs,⟨by simp;omega,?_⟩,?_⟩
  ·intro f hf;obtain⟨i,hi,rfl⟩:=List.mem_map.1 hf;exact (hq i (by have:=List.mem_range.1 hi;omega)).1
  ·intro i hi;have hi':i<len:=by simpa using hi
   obtain⟨-,b,off,rfl,r0,r1,r2,r3,r4,r5,r6,r7,r8,r9⟩:=hq i (by omega);exact⟨b,off,rfl,Nat.zero_le _,by simpa using r0,by simpa using r1,by simpa using r2,by simpa using r3,by simpa using r4,by simpa using r5,by simpa using r6,by simpa using r7,by simpa using r8,by simpa using r9⟩
end
theorem array6{α:Type}{cs:Array α}(h:cs.size=6):∃c0 c1 c2 c3 c4 c5,cs=#[c0,c1,c2,c3,c4,c5]:=by
 obtain⟨l⟩:=cs;match l,h with
 | [c0,c1,c2,c3,c4,c5],_=>exact⟨c0,c1,c2,c3,c4,c5,rfl⟩
theorem open_fast{H:Type}{enc:TypeId×Value->H}{w:World}{base:Nat}{sp:Nat->Bool}{held:Bool}{r:Reach}{b0:Nat}{v:Value}{d:DataW H}{p:List MemPlace}
  (hv:Value.okWide Tryz.prog w r b0 29 v)(h:DataW.Trod enc Tryz.prog w base sp held 29 v d p) :
  ∃oa ea oc ec,∃D:aR,v=.agg (aK oa ea oc ec D)/\go D/\br w 0 oa ea D:=by
 obtain⟨cs,rfl,hsz⟩:=okWide_struct Tryz.underlying29 hv;obtain⟨c0,c1,c2,c3,c4,c5,rfl⟩:=array6 (hsz.trans kc29);obtain⟨fuel,hf⟩:=h;obtain⟨xs,n,-,-,-,hlen,hf⟩:=DataW.trod_struct Tryz.underlying29 hf;have hlen6:xs.length=6:=hlen;have get:∀i (hi:i<6),xs[i]?=some (xs[i]'(by omega)):=fun i hi=>List.getElem?_eq_getElem (by omega)
 have t0:DataW.trod enc Tryz.prog w base sp held n 3 [c0]=some (xs[0]'(by omega)):=by rw[<-get 0 (by omega)];simpa[Value.cells,kc3] using hf 0 _ rfl
 have t1:DataW.trod enc Tryz.prog w base sp held n 3 [c1]=some (xs[1]'(by omega)):=by rw[<-get 1 (by omega)];simpa[Value.cells,kc3] using hf 1 _ rfl
 have t2:DataW.trod enc Tryz.prog w base sp held n 3 [c2]=some (xs[2]'(by omega)):=by rw[<-get 2 (by omega)];simpa[Value.cells,kc3] using hf 2 _ rfl
 have t3:DataW.trod enc Tryz.prog w base sp held n 3 [c3]=some (xs[3]'(by omega)):=by rw[<-get 3 (by omega)];simpa[Value.cells,kc3] using hf 3 _ rfl
 have t4:DataW.trod enc Tryz.prog w base sp held n 26 [c4]=some (xs[4]'(by omega)):=by rw[<-get 4 (by omega)];simpa[Value.cells,kc26] using hf 4 _ rfl
 have t5:DataW.trod enc Tryz.prog w base sp held n 27 [c5]=some (xs[5]'(by omega)):=by rw[<-get 5 (by omega)];simpa[Value.cells,kc27] using hf 5 _ rfl
 obtain⟨z0,x0,-⟩:=DataW.trod_int Tryz.underlying3 t0;obtain⟨z1,x1,-⟩:=DataW.trod_int Tryz.underlying3 t1;obtain⟨z2,x2,-⟩:=DataW.trod_int Tryz.underlying3 t2;obtain⟨z3,x3,-⟩:=DataW.trod_int Tryz.underlying3 t3;obtain⟨oa,oc,os,x4,m4,h4⟩:=read_fos t4;obtain⟨ea,ec,es,x5,m5,h5⟩:=read_exs t5;simp only[List.cons.injEq,and_true] at x0 x1 x2 x3
 subst x0 x1 x2 x3 x4 x5;exact⟨oa,ea,oc,ec,⟨z0,z1,z2,z3,os,es⟩,rfl,⟨m4,m5⟩,⟨h4,h5⟩⟩
end Go.Proofs.YtbjmgmmekmfjhaaGreatDoor
