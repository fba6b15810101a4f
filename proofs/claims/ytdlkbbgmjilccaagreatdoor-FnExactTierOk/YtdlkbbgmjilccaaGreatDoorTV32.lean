/- TV32 -/
import Derived.Test.YtdlkbbgmjilccaaGreatDoorTV23
set_option maxHeartbeats 32000000
set_option maxRecDepth 100000
namespace Go.Proofs.YtdlkbbgmjilccaaGreatDoor
open Go.RowKit
theorem allSrc_any(b:Value)(P:Nat->Sr->Prop)(a:Option Addr)(xs:List Sr)(cap:Nat)(w:World)(hn:xs.length<=1048576)(hm:bq w 0 a xs)(HC:Hid (∀i (h:i<xs.length) w',Below w.heap.size w w'->Calls Tryz.prog 225 #[b,.int .i64 (i:Nat),.agg #[.int .i64 xs[i].k,.int .i64 xs[i].n,.int .i64 xs[i].v.k,.int .i64 xs[i].v.n,.string xs[i].v.s]] w' fun e w''=>e=.returned (.bool (pB (P i xs[i])))/\Below w'.heap.size w' w'')) :
  Calls Tryz.prog 224 #[.slice a xs.length cap,.func (.func 225) #[b] #[]] w fun e w'=>e=.returned (.bool (pB (∀i (h:i<xs.length),P i xs[i])))/\Below w.heap.size w w':=by
 go_enter Tryz.func224,Tryz.ntmps224
 go_wp2;go_loopw [9] (fun i wr=>∃(k:Nat),k<=xs.length/\i=.int .i64 k/\Hid (∀i (h:i<xs.length),i<k->P i xs[i])/\Below w.heap.size w wr) (fun i _=>xs.length-(intOf i).toNat)
 case atStart=>exact⟨0,by omega,rfl,fun _ _ h=>absurd h (Nat.not_lt_zero _),Below.refl _ _⟩
 case round=>
  obtain⟨k,hk,rfl,hdone,hb⟩:=hrel;by_cases hlt:k<xs.length
  case neg=>
   have HD:Hid (∀i (h:i<xs.length),P i xs[i]):=fun i hi=>hdone.out i hi (by omega)
   clear hdone;go_wp2;go_ret
   exact⟨aj (ay HD.out).symm,hb⟩
  case pos=>
   obtain⟨b',off,rfl,-,d0,d1,d2,d3,d4⟩:=hm k hlt;have e0:=cell_later hb d0;have e1:=cell_later hb d1;have e2:=cell_later hb d2;have e3:=cell_later hb d3;have e4:=cell_later hb d4;clear d0 d1 d2 d3 d4;have hbA:Below w.heap.size w (wr.alloc (.cells #[.int .i64 xs[k].k,.int .i64 xs[k].n,.int .i64 xs[k].v.k,.int .i64 xs[k].v.n,.string xs[k].v.s] 273)):=hb.alloc hb.size _;have HCk:=HC.out k hlt _ hbA;obtain⟨wA,hwA⟩:∃wA,wA=wr.alloc (.cells #[.int .i64 xs[k].k,.int .i64 xs[k].n,.int .i64 xs[k].v.k,.int .i64 xs[k].v.n,.string xs[k].v.s] 273):=⟨_,rfl⟩;rw[<-hwA] at HCk hbA;by_cases hp:P k xs[k]
   case neg=>
    rw[aw hp] at HCk;have HCK:=HCk;have HN:Hid (¬P k xs[k]):=hp;clear hp hdone HCk;go_wp2_with fail
    rw[<-hwA];clear hwA;refine HCK.mono ?_;rintro e w2 ⟨rfl,hb2⟩;go_wp2;go_ret
    exact⟨aj (aw (fun h=>HN.out (h k hlt))).symm,hbA.trans (hb2.mono hbA.size)⟩
   rw[ay hp] at HCk;have HP:Hid (P k xs[k]):=hp;clear hp;go_wp2_with fail
   rw[<-hwA];clear hwA;refine HCk.mono ?_;rintro e w2 ⟨rfl,hb2⟩;go_wp2;go_roundw
   case rel=>
    refine⟨k+1,by omega,by go_num,?_,hbA.trans (hb2.mono hbA.size)⟩;intro j hj hjk;by_cases e:j=k
    ·subst e;exact HP.out
    ·exact hdone.out j hj (by omega)
   case measure=>simp[intOf];omega
theorem allExFrame_any(b:Value)(P:Nat->EF->Prop)(a:Option Addr)(xs:List EF)(cap:Nat)(w:World)(hn:xs.length<=1048576)(hm:bZ w 0 a xs)(HC:Hid (∀i (h:i<xs.length) (a0:Option Addr) (c0:Nat) (a1:Option Addr) (c1:Nat) w',Below w.heap.size w w'->bq w' 0 a0 xs[i].locals->bq w' 0 a1 xs[i].stack->Calls Tryz.prog 192 #[b,.int .i64 (i:Nat),.agg #[.int .i64 xs[i].fn,.int .i64 xs[i].pc,.slice a0 xs[i].locals.length c0,.slice a1 xs[i].stack.length c1]] w' fun e w''=>e=.returned (.bool (pB (P i xs[i])))/\Below w'.heap.size w' w'')) :
  Calls Tryz.prog 191 #[.slice a xs.length cap,.func (.func 192) #[b] #[]] w fun e w'=>e=.returned (.bool (pB (∀i (h:i<xs.length),P i xs[i])))/\Below w.heap.size w w':=by
 go_enter Tryz.func191,Tryz.ntmps191
 go_wp2;go_loopw [9] (fun i wr=>∃(k:Nat),k<=xs.length/\i=.int .i64 k/\Hid (∀i (h:i<xs.length),i<k->P i xs[i])/\Below w.heap.size w wr) (fun i _=>xs.length-(intOf i).toNat)
 case atStart=>exact⟨0,by omega,rfl,fun _ _ h=>absurd h (Nat.not_lt_zero _),Below.refl _ _⟩
 case round=>
  obtain⟨k,hk,rfl,hdone,hb⟩:=hrel;by_cases hlt:k<xs.length
  case neg=>
   have HD:Hid (∀i (h:i<xs.length),P i xs[i]):=fun i hi=>hdone.out i hi (by omega)
   clear hdone;go_wp2;go_ret
   exact⟨aj (ay HD.out).symm,hb⟩
  case pos=>
   obtain⟨b',off,a0,c0,a1,c1,rfl,-,d0,d1,d2,d3,p0,p1⟩:=hm k hlt;have e0:=cell_later hb d0;have e1:=cell_later hb d1;have e2:=cell_later hb d2;have e3:=cell_later hb d3;clear d0 d1 d2 d3;have hbA:Below w.heap.size w (wr.alloc (.cells #[.int .i64 xs[k].fn,.int .i64 xs[k].pc,.slice a0 xs[k].locals.length c0,.slice a1 xs[k].stack.length c1] 227)):=hb.alloc hb.size _;have HCk:=HC.out k hlt a0 c0 a1 c1 _ hbA (p0.mono hbA) (p1.mono hbA);obtain⟨wA,hwA⟩:∃wA,wA=wr.alloc (.cells #[.int .i64 xs[k].fn,.int .i64 xs[k].pc,.slice a0 xs[k].locals.length c0,.slice a1 xs[k].stack.length c1] 227):=⟨_,rfl⟩;rw[<-hwA] at HCk hbA;by_cases hp:P k xs[k]
   case neg=>
    rw[aw hp] at HCk;have HCK:=HCk;have HN:Hid (¬P k xs[k]):=hp;clear hp hdone HCk;go_wp2_with fail
    rw[<-hwA];clear hwA;refine HCK.mono ?_;rintro e w2 ⟨rfl,hb2⟩;go_wp2;go_ret
    exact⟨aj (aw (fun h=>HN.out (h k hlt))).symm,hbA.trans (hb2.mono hbA.size)⟩
   rw[ay hp] at HCk;have HP:Hid (P k xs[k]):=hp;clear hp;go_wp2_with fail
   rw[<-hwA];clear hwA;refine HCk.mono ?_;rintro e w2 ⟨rfl,hb2⟩;go_wp2;go_roundw
   case rel=>
    refine⟨k+1,by omega,by go_num,?_,hbA.trans (hb2.mono hbA.size)⟩;intro j hj hjk;by_cases e:j=k
    ·subst e;exact HP.out
    ·exact hdone.out j hj (by omega)
   case measure=>simp[intOf];omega
theorem allExRec_any(b:Value)(P:Nat->ER->Prop)(a:Option Addr)(xs:List ER)(cap:Nat)(w:World)(hn:xs.length<=1048576)(hm:b8 w 0 a xs)(HC:Hid (∀i (h:i<xs.length) (a0:Option Addr) (c0:Nat) w',Below w.heap.size w w'->bq w' 0 a0 xs[i].fields->Calls Tryz.prog 194 #[b,.int .i64 (i:Nat),.agg #[.slice a0 xs[i].fields.length c0]] w' fun e w''=>e=.returned (.bool (pB (P i xs[i])))/\Below w'.heap.size w' w'')) :
  Calls Tryz.prog 193 #[.slice a xs.length cap,.func (.func 194) #[b] #[]] w fun e w'=>e=.returned (.bool (pB (∀i (h:i<xs.length),P i xs[i])))/\Below w.heap.size w w':=by
 go_enter Tryz.func193,Tryz.ntmps193
 go_wp2;go_loopw [9] (fun i wr=>∃(k:Nat),k<=xs.length/\i=.int .i64 k/\Hid (∀i (h:i<xs.length),i<k->P i xs[i])/\Below w.heap.size w wr) (fun i _=>xs.length-(intOf i).toNat)
 case atStart=>exact⟨0,by omega,rfl,fun _ _ h=>absurd h (Nat.not_lt_zero _),Below.refl _ _⟩
 case round=>
  obtain⟨k,hk,rfl,hdone,hb⟩:=hrel;by_cases hlt:k<xs.length
  case neg=>
   have HD:Hid (∀i (h:i<xs.length),P i xs[i]):=fun i hi=>hdone.out i hi (by omega)
   clear hdone;go_wp2;go_ret
   exact⟨aj (ay HD.out).symm,hb⟩
  case pos=>
   obtain⟨b',off,a0,c0,rfl,-,d0,p0⟩:=hm k hlt;have e0:=cell_later hb d0;clear d0;have hbA:Below w.heap.size w (wr.alloc (.cells #[.slice a0 xs[k].fields.length c0] 230)):=hb.alloc hb.size _;have HCk:=HC.out k hlt a0 c0 _ hbA (p0.mono hbA);obtain⟨wA,hwA⟩:∃wA,wA=wr.alloc (.cells #[.slice a0 xs[k].fields.length c0] 230):=⟨_,rfl⟩;rw[<-hwA] at HCk hbA;by_cases hp:P k xs[k]
   case neg=>
    rw[aw hp] at HCk;have HCK:=HCk;have HN:Hid (¬P k xs[k]):=hp;clear hp hdone HCk;go_wp2_with fail
    rw[<-hwA];clear hwA;refine HCK.mono ?_;rintro e w2 ⟨rfl,hb2⟩;go_wp2;go_ret
    exact⟨aj (aw (fun h=>HN.out (h k hlt))).symm,hbA.trans (hb2.mono hbA.size)⟩
   rw[ay hp] at HCk;have HP:Hid (P k xs[k]):=hp;clear hp;go_wp2_with fail
   rw[<-hwA];clear hwA;refine HCk.mono ?_;rintro e w2 ⟨rfl,hb2⟩;go_wp2;go_roundw
   case rel=>
    refine⟨k+1,by omega,by go_num,?_,hbA.trans (hb2.mono hbA.size)⟩;intro j hj hjk;by_cases e:j=k
    ·subst e;exact HP.out
    ·exact hdone.out j hj (by omega)
   case measure=>simp[intOf];omega
theorem allExit_any(b:Value)(P:Nat->Ex->Prop)(a:Option Addr)(xs:List Ex)(cap:Nat)(w:World)(hn:xs.length<=1048576)(hm:bV w 0 a xs)(HC:Hid (∀i (h:i<xs.length) (a0:Option Addr) (c0:Nat) (a1:Option Addr) (c1:Nat) w',Below w.heap.size w w'->bZ w' 0 a0 xs[i].frames->b8 w' 0 a1 xs[i].recs->Calls Tryz.prog 165 #[b,.int .i64 (i:Nat),.agg #[.int .i64 xs[i].kind,.int .i64 xs[i].spec.f,.int .i64 xs[i].spec.pc,.int .i64 xs[i].spec.seen,.int .i64 xs[i].spec.target,.slice a0 xs[i].frames.length c0,.slice a1 xs[i].recs.length c1]] w' fun e w''=>e=.returned (.bool (pB (P i xs[i])))/\Below w'.heap.size w' w'')) :
  Calls Tryz.prog 164 #[.slice a xs.length cap,.func (.func 165) #[b] #[]] w fun e w'=>e=.returned (.bool (pB (∀i (h:i<xs.length),P i xs[i])))/\Below w.heap.size w w':=by
 go_enter Tryz.func164,Tryz.ntmps164
 go_wp2;go_loopw [9] (fun i wr=>∃(k:Nat),k<=xs.length/\i=.int .i64 k/\Hid (∀i (h:i<xs.length),i<k->P i xs[i])/\Below w.heap.size w wr) (fun i _=>xs.length-(intOf i).toNat)
 case atStart=>exact⟨0,by omega,rfl,fun _ _ h=>absurd h (Nat.not_lt_zero _),Below.refl _ _⟩
 case round=>
  obtain⟨k,hk,rfl,hdone,hb⟩:=hrel;by_cases hlt:k<xs.length
  case neg=>
   have HD:Hid (∀i (h:i<xs.length),P i xs[i]):=fun i hi=>hdone.out i hi (by omega)
   clear hdone;go_wp2;go_ret
   exact⟨aj (ay HD.out).symm,hb⟩
  case pos=>
   obtain⟨b',off,a0,c0,a1,c1,rfl,-,d0,d1,d2,d3,d4,d5,d6,p0,p1⟩:=hm k hlt;have e0:=cell_later hb d0;have e1:=cell_later hb d1;have e2:=cell_later hb d2;have e3:=cell_later hb d3;have e4:=cell_later hb d4;have e5:=cell_later hb d5;have e6:=cell_later hb d6;clear d0 d1 d2 d3 d4 d5 d6;have hbA:Below w.heap.size w (wr.alloc (.cells #[.int .i64 xs[k].kind,.int .i64 xs[k].spec.f,.int .i64 xs[k].spec.pc,.int .i64 xs[k].spec.seen,.int .i64 xs[k].spec.target,.slice a0 xs[k].frames.length c0,.slice a1 xs[k].recs.length c1] 175)):=hb.alloc hb.size _;have HCk:=HC.out k hlt a0 c0 a1 c1 _ hbA (p0.mono hbA) (p1.mono hbA);obtain⟨wA,hwA⟩:∃wA,wA=wr.alloc (.cells #[.int .i64 xs[k].kind,.int .i64 xs[k].spec.f,.int .i64 xs[k].spec.pc,.int .i64 xs[k].spec.seen,.int .i64 xs[k].spec.target,.slice a0 xs[k].frames.length c0,.slice a1 xs[k].recs.length c1] 175):=⟨_,rfl⟩;rw[<-hwA] at HCk hbA;by_cases hp:P k xs[k]
   case neg=>
    rw[aw hp] at HCk;have HCK:=HCk;have HN:Hid (¬P k xs[k]):=hp;clear hp hdone HCk;go_wp2_with fail
    rw[<-hwA];clear hwA;refine HCK.mono ?_;rintro e w2 ⟨rfl,hb2⟩;go_wp2;go_ret
    exact⟨aj (aw (fun h=>HN.out (h k hlt))).symm,hbA.trans (hb2.mono hbA.size)⟩
   rw[ay hp] at HCk;have HP:Hid (P k xs[k]):=hp;clear hp;go_wp2_with fail
   rw[<-hwA];clear hwA;refine HCk.mono ?_;rintro e w2 ⟨rfl,hb2⟩;go_wp2;go_roundw
   case rel=>
    refine⟨k+1,by omega,by go_num,?_,hbA.trans (hb2.mono hbA.size)⟩;intro j hj hjk;by_cases e:j=k
    ·subst e;exact HP.out
    ·exact hdone.out j hj (by omega)
   case measure=>simp[intOf];omega
theorem allFOp_any(b:Value)(P:Nat->Fo->Prop)(a:Option Addr)(xs:List Fo)(cap:Nat)(w:World)(hn:xs.length<=1048576)(hm:bS w 0 a xs)(HC:Hid (∀i (h:i<xs.length) w',Below w.heap.size w w'->Calls Tryz.prog 163 #[b,.int .i64 (i:Nat),.agg #[.int .i64 xs[i].op,.int .i64 xs[i].d,.int .i64 xs[i].a,.int .i64 xs[i].b,.int .i64 xs[i].x,.int .i64 xs[i].f,.int .i64 xs[i].p,.int .i64 xs[i].v.k,.int .i64 xs[i].v.n,.string xs[i].v.s]] w' fun e w''=>e=.returned (.bool (pB (P i xs[i])))/\Below w'.heap.size w' w'')) :
  Calls Tryz.prog 162 #[.slice a xs.length cap,.func (.func 163) #[b] #[]] w fun e w'=>e=.returned (.bool (pB (∀i (h:i<xs.length),P i xs[i])))/\Below w.heap.size w w':=by
 go_enter Tryz.func162,Tryz.ntmps162
 go_wp2;go_loopw [9] (fun i wr=>∃(k:Nat),k<=xs.length/\i=.int .i64 k/\Hid (∀i (h:i<xs.length),i<k->P i xs[i])/\Below w.heap.size w wr) (fun i _=>xs.length-(intOf i).toNat)
 case atStart=>exact⟨0,by omega,rfl,fun _ _ h=>absurd h (Nat.not_lt_zero _),Below.refl _ _⟩
 case round=>
  obtain⟨k,hk,rfl,hdone,hb⟩:=hrel;by_cases hlt:k<xs.length
  case neg=>
   have HD:Hid (∀i (h:i<xs.length),P i xs[i]):=fun i hi=>hdone.out i hi (by omega)
   clear hdone;go_wp2;go_ret
   exact⟨aj (ay HD.out).symm,hb⟩
  case pos=>
   obtain⟨b',off,rfl,-,d0,d1,d2,d3,d4,d5,d6,d7,d8,d9⟩:=hm k hlt;have e0:=cell_later hb d0;have e1:=cell_later hb d1;have e2:=cell_later hb d2;have e3:=cell_later hb d3;have e4:=cell_later hb d4;have e5:=cell_later hb d5;have e6:=cell_later hb d6;have e7:=cell_later hb d7;have e8:=cell_later hb d8;have e9:=cell_later hb d9;clear d0 d1 d2 d3 d4 d5 d6 d7 d8 d9;have hbA:Below w.heap.size w (wr.alloc (.cells #[.int .i64 xs[k].op,.int .i64 xs[k].d,.int .i64 xs[k].a,.int .i64 xs[k].b,.int .i64 xs[k].x,.int .i64 xs[k].f,.int .i64 xs[k].p,.int .i64 xs[k].v.k,.int .i64 xs[k].v.n,.string xs[k].v.s] 177)):=hb.alloc hb.size _;have HCk:=HC.out k hlt _ hbA;obtain⟨wA,hwA⟩:∃wA,wA=wr.alloc (.cells #[.int .i64 xs[k].op,.int .i64 xs[k].d,.int .i64 xs[k].a,.int .i64 xs[k].b,.int .i64 xs[k].x,.int .i64 xs[k].f,.int .i64 xs[k].p,.int .i64 xs[k].v.k,.int .i64 xs[k].v.n,.string xs[k].v.s] 177):=⟨_,rfl⟩;rw[<-hwA] at HCk hbA;by_cases hp:P k xs[k]
   case neg=>
    rw[aw hp] at HCk;have HCK:=HCk;have HN:Hid (¬P k xs[k]):=hp;clear hp hdone HCk;go_wp2_with fail
    rw[<-hwA];clear hwA;refine HCK.mono ?_;rintro e w2 ⟨rfl,hb2⟩;go_wp2;go_ret
    exact⟨aj (aw (fun h=>HN.out (h k hlt))).symm,hbA.trans (hb2.mono hbA.size)⟩
   rw[ay hp] at HCk;have HP:Hid (P k xs[k]):=hp;clear hp;go_wp2_with fail
   rw[<-hwA];clear hwA;refine HCk.mono ?_;rintro e w2 ⟨rfl,hb2⟩;go_wp2;go_roundw
   case rel=>
    refine⟨k+1,by omega,by go_num,?_,hbA.trans (hb2.mono hbA.size)⟩;intro j hj hjk;by_cases e:j=k
    ·subst e;exact HP.out
    ·exact hdone.out j hj (by omega)
   case measure=>simp[intOf];omega
end Go.Proofs.YtdlkbbgmjilccaaGreatDoor
