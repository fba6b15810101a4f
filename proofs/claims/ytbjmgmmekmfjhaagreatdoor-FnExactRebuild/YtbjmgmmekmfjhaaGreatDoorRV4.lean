/- RV4 -/
import Derived.Test.YtbjmgmmekmfjhaaGreatDoorRV1
set_option maxHeartbeats 32000000
namespace Go.Proofs.YtbjmgmmekmfjhaaGreatDoor
open Go.RowKit
theorem dW(s:ByteArray)(w:World)(hs:s.size<=1048576) :
  Calls Tryz.prog 139 #[.string s] w fun e w'=>e=.returned (.bool (ck s))/\w'=w:=by
 by_cases h60:s.size<=60
 ·go_enter Tryz.func139,Tryz.ntmps139
  go_wp2;go_loop [3] (fun i=>∃k:Nat,k<=s.size/\i=.int .i64 k/\∀j (hj:j<s.size),j<k->eh s[j]=true) (fun i=>s.size-(intOf i).toNat)
  case atStart=>exact⟨0,by omega,rfl,fun j _ h=>by omega⟩
  case round=>
   obtain⟨k,hk,rfl,hall⟩:=hrel;by_cases hlt:k<s.size
   ·by_cases b1:(s[k].toNat:Int)<32
    ·go_wp2;go_ret
     exact⟨ax (dI hlt (by unfold eh;simp;omega)).symm,rfl⟩
    by_cases b2:126<(s[k].toNat:Int)
    ·go_wp2;go_ret
     exact⟨ax (dI hlt (by unfold eh;simp;omega)).symm,rfl⟩
    by_cases b3:(s[k].toNat:Int)=34
    ·have b3':((s[k].toNat:Int) == 34)=true:=by simpa using b3
     have hno:=dI hlt (by unfold eh;simp;omega);clear b3;go_wp2;go_ret
     exact⟨rfl,rfl⟩
    ·have b3':((s[k].toNat:Int) == 34)=false:=by simpa using b3
     have hyes:eh s[k]=true:=by unfold eh;simp;omega
     go_wp2;go_round
     case rel=>
      refine⟨k+1,by omega,by go_num,fun j hj hjk=>?_⟩;by_cases e:j=k
      ·subst e;exact hyes
      ·exact hall j hj (by omega)
     case measure=>simp[intOf];omega
   ·go_wp2;go_ret
    exact⟨ax (textB_yes h60 fun j hj=>hall j hj (by omega)).symm,rfl⟩
 ·go_enter Tryz.func139,Tryz.ntmps139
  go_wp2;go_ret
  exact⟨ax (by simp[ck,h60]),rfl⟩
theorem eL(s:ByteArray)(w:World)(hs:s.size<=1048576) :
  Calls Tryz.prog 192 #[.string s] w fun e w'=>e=.returned (.bool (ck s))/\w'=w:=by
 by_cases h60:s.size<=60
 ·go_enter Tryz.func192,Tryz.ntmps192
  go_wp2;go_loop [3] (fun i=>∃k:Nat,k<=s.size/\i=.int .i64 k/\∀j (hj:j<s.size),j<k->eh s[j]=true) (fun i=>s.size-(intOf i).toNat)
  case atStart=>exact⟨0,by omega,rfl,fun j _ h=>by omega⟩
  case round=>
   obtain⟨k,hk,rfl,hall⟩:=hrel;by_cases hlt:k<s.size
   ·by_cases b1:(s[k].toNat:Int)<32
    ·go_wp2;go_ret
     exact⟨ax (dI hlt (by unfold eh;simp;omega)).symm,rfl⟩
    by_cases b2:126<(s[k].toNat:Int)
    ·go_wp2;go_ret
     exact⟨ax (dI hlt (by unfold eh;simp;omega)).symm,rfl⟩
    by_cases b3:(s[k].toNat:Int)=34
    ·have b3':((s[k].toNat:Int) == 34)=true:=by simpa using b3
     have hno:=dI hlt (by unfold eh;simp;omega);clear b3;go_wp2;go_ret
     exact⟨rfl,rfl⟩
    ·have b3':((s[k].toNat:Int) == 34)=false:=by simpa using b3
     have hyes:eh s[k]=true:=by unfold eh;simp;omega
     go_wp2;go_round
     case rel=>
      refine⟨k+1,by omega,by go_num,fun j hj hjk=>?_⟩;by_cases e:j=k
      ·subst e;exact hyes
      ·exact hall j hj (by omega)
     case measure=>simp[intOf];omega
   ·go_wp2;go_ret
    exact⟨ax (textB_yes h60 fun j hj=>hall j hj (by omega)).symm,rfl⟩
 ·go_enter Tryz.func192,Tryz.ntmps192
  go_wp2;go_ret
  exact⟨ax (by simp[ck,h60]),rfl⟩
theorem argBounds_any(a1 a2 a3:Option Addr)(nt c1 nf c2 nc c3:Nat)(p l op:Int)(w:World) :
  Calls Tryz.prog 286 #[.agg #[.slice a1 nt c1,.slice a2 nf c2],.agg #[.int .i64 p,.int .i64 l,.slice a3 nc c3],.int .i64 op] w fun e w'=>e=.returned (.tuple #[.int .i64 (cY nt nf l nc op).1,.int .i64 (cY nt nf l nc op).2])/\Below w.heap.size w w':=by
 rcases ez op with rfl | rfl | rfl | rfl | rfl | rfl | rfl | rfl | rfl | rfl | rfl | rfl | rfl | rfl | rfl | rfl | rfl | rfl | rfl | rfl | rfl | rfl | rfl | rfl | rfl | rfl | h | h
 case inr.inr.inr.inr.inr.inr.inr.inr.inr.inr.inr.inr.inr.inr.inr.inr.inr.inr.inr.inr.inr.inr.inr.inr.inr.inr.inl=>
  have hbb:=boundsB_out (nt:=nt) (nf:=nf) (loc:=l) (nc:=nc) (Or.inl h:op<1\/26<op);rw[hbb];clear hbb;go_enter Tryz.func286,Tryz.ntmps286
  go_wp2;go_ret2
  exact⟨rfl,(b_r.alloc n_l _).alloc (by simp) _⟩
 case inr.inr.inr.inr.inr.inr.inr.inr.inr.inr.inr.inr.inr.inr.inr.inr.inr.inr.inr.inr.inr.inr.inr.inr.inr.inr.inr=>
  have hbb:=boundsB_out (nt:=nt) (nf:=nf) (loc:=l) (nc:=nc) (Or.inr h:op<1\/26<op);rw[hbb];clear hbb;go_enter Tryz.func286,Tryz.ntmps286
  go_wp2;go_ret2
  exact⟨rfl,(b_r.alloc n_l _).alloc (by simp) _⟩
 all_goals
  go_enter Tryz.func286,Tryz.ntmps286
  go_wp2;try go_quiet (fail)
  try go_wp2
  go_ret2
  refine⟨rfl,?_⟩;first | exact (b_r.alloc n_l _).alloc (by simp) _ | exact aF ((b_r.alloc n_l _).alloc (by simp) _) _
end Go.Proofs.YtbjmgmmekmfjhaaGreatDoor
