/- TV6 -/
import Derived.Test.YtdlkbbgmjilccaaGreatDoorTV1
set_option maxHeartbeats 32000000
namespace Go.Proofs.YtdlkbbgmjilccaaGreatDoor
open Go.RowKit
theorem uses23_in{fs:List Fn}{a:Int}(h0:0<=a)(h1:a<=6):aG fs 23 a=(a+1,1):=by
 unfold aG;simp[h0,h1]
theorem uses23_out{fs:List Fn}{a:Int}(h:¬(0<=a/\a<=6)):aG fs 23 a=(0,0):=by
 unfold aG;simp[h]
theorem uses24_in{fs:List Fn}{k:Nat}(h:k<fs.length):aG fs 24 (k:Int)=(fs[k].params,1):=by
 unfold aG;simp[h]
theorem uses24_out{fs:List Fn}{a:Int}(h:¬(0<=a/\a<fs.length)):aG fs 24 a=(0,0):=by
 unfold aG;simp[h]
theorem iUses_any(a1 a2:Option Addr)(nt c1 c2:Nat)(fs:List Fn)(op a:Int)(w:World)(hf:FnsAt w 0 a2 fs) :
  Calls Tryz.prog 179 #[.agg #[.slice a1 nt c1,.slice a2 fs.length c2],.agg #[.int .i64 op,.int .i64 a]] w fun e w'=>e=.returned (.tuple #[.int .i64 (aG fs op a).1,.int .i64 (aG fs op a).2])/\Below w.heap.size w w':=by
 have hbA:Below w.heap.size w ((w.alloc (.cells #[.slice a1 nt c1,.slice a2 fs.length c2] 42)).alloc (.cells #[.int .i64 op,.int .i64 a] 153)):=(gM.alloc nL _).alloc (by simp) _;rcases dC op with rfl | rfl | rfl | rfl | rfl | rfl | rfl | rfl | rfl | rfl | rfl | rfl | rfl | rfl | rfl | rfl | rfl | rfl | rfl | rfl | rfl | rfl | h23 | h24 | rfl | rfl | h | h
 case inr.inr.inr.inr.inr.inr.inr.inr.inr.inr.inr.inr.inr.inr.inr.inr.inr.inr.inr.inr.inr.inr.inr.inr.inr.inr.inl=>
  rw[dE (Or.inl h:op<1\/26<op)];go_enter Tryz.func179,Tryz.ntmps179
  go_wp2;go_ret2
  exact⟨rfl,hbA⟩
 case inr.inr.inr.inr.inr.inr.inr.inr.inr.inr.inr.inr.inr.inr.inr.inr.inr.inr.inr.inr.inr.inr.inr.inr.inr.inr.inr=>
  rw[dE (Or.inr h:op<1\/26<op)];go_enter Tryz.func179,Tryz.ntmps179
  go_wp2;go_ret2
  exact⟨rfl,hbA⟩
 case inr.inr.inr.inr.inr.inr.inr.inr.inr.inr.inr.inr.inr.inr.inr.inr.inr.inr.inr.inr.inr.inr.inl=>
  subst h23;by_cases h:0<=a/\a<=6
  ·obtain⟨h0,h1⟩:=h;rw[uses23_in h0 h1];go_enter Tryz.func179,Tryz.ntmps179
   go_wp2;go_ret2
   exact⟨rfl,hbA⟩
  ·rw[uses23_out h];rcases (show a<0\/(0<=a/\6<a) by omega) with h1 | ⟨h1,h2⟩
   all_goals
    clear h;go_enter Tryz.func179,Tryz.ntmps179
    go_wp2;go_ret2
    exact⟨rfl,hbA⟩
 case inr.inr.inr.inr.inr.inr.inr.inr.inr.inr.inr.inr.inr.inr.inr.inr.inr.inr.inr.inr.inr.inr.inr.inl=>
  subst h24;by_cases h:0<=a/\a<fs.length
  ·obtain⟨k,rfl⟩:∃k:Nat,a=k:=⟨a.toNat,by omega⟩;have hk:k<fs.length:=by omega
   rw[uses24_in hk];obtain⟨b,off,ca,cc,rfl,-,d1,d2,d3,d4⟩:=hf k hk;have d1':=cell_later hbA d1;clear d1 d2 d3 d4 h hf;go_enter Tryz.func179,Tryz.ntmps179
   go_wp2;go_ret2
   exact⟨rfl,hbA⟩
  ·rw[uses24_out h];rcases (show a<0\/(0<=a/\(fs.length:Int)<=a) by omega) with h1 | ⟨h1,h2⟩
   all_goals
    clear h;go_enter Tryz.func179,Tryz.ntmps179
    go_wp2;go_ret2
    exact⟨rfl,hbA⟩
 all_goals
  go_enter Tryz.func179,Tryz.ntmps179
  go_wp2;go_ret2
  exact⟨rfl,hbA⟩
theorem sUses_any(a1 a2:Option Addr)(nt c1 c2:Nat)(fs:List Fn)(op a:Int)(w:World)(hn:fs.length<=1048576)(hf:FnsAt w 0 a2 fs) :
  Calls Tryz.prog 84 #[.agg #[.slice a1 nt c1,.slice a2 fs.length c2],.agg #[.int .i64 op,.int .i64 a]] w fun e w'=>e=.returned (.tuple #[.int .i64 (aG fs op a).1,.int .i64 (aG fs op a).2])/\Below w.heap.size w w':=by
 have hbA:Below w.heap.size w ((w.alloc (.cells #[.slice a1 nt c1,.slice a2 fs.length c2] 42)).alloc (.cells #[.int .i64 op,.int .i64 a] 153)):=(gM.alloc nL _).alloc (by simp) _;rcases dC op with rfl | rfl | rfl | rfl | rfl | rfl | rfl | rfl | rfl | rfl | rfl | rfl | rfl | rfl | rfl | rfl | rfl | rfl | rfl | rfl | rfl | rfl | h23 | h24 | rfl | rfl | h | h
 case inr.inr.inr.inr.inr.inr.inr.inr.inr.inr.inr.inr.inr.inr.inr.inr.inr.inr.inr.inr.inr.inr.inr.inr.inr.inr.inl=>
  rw[dE (Or.inl h:op<1\/26<op)];go_enter Tryz.func84,Tryz.ntmps84
  go_wp2_with (go_at_call 45;refine (aB _ _ _ _).mono ?_;rintro e w1 ⟨rfl,rfl⟩)
  go_ret2
  exact⟨rfl,hbA⟩
 case inr.inr.inr.inr.inr.inr.inr.inr.inr.inr.inr.inr.inr.inr.inr.inr.inr.inr.inr.inr.inr.inr.inr.inr.inr.inr.inr=>
  rw[dE (Or.inr h:op<1\/26<op)];go_enter Tryz.func84,Tryz.ntmps84
  go_wp2_with (go_at_call 45;refine (aB _ _ _ _).mono ?_;rintro e w1 ⟨rfl,rfl⟩)
  go_ret2
  exact⟨rfl,hbA⟩
 case inr.inr.inr.inr.inr.inr.inr.inr.inr.inr.inr.inr.inr.inr.inr.inr.inr.inr.inr.inr.inr.inr.inl=>
  subst h23;by_cases h:0<=a/\a<=6
  ·obtain⟨h0,h1⟩:=h;rw[uses23_in h0 h1];go_enter Tryz.func84,Tryz.ntmps84
   go_wp2_with (go_at_call 45;refine (aB _ _ _ _).mono ?_;rintro e w1 ⟨rfl,rfl⟩)
   go_ret2
   exact⟨rfl,hbA⟩
  ·rw[uses23_out h];rcases (show a<0\/(0<=a/\6<a) by omega) with h1 | ⟨h1,h2⟩
   all_goals
    clear h;go_enter Tryz.func84,Tryz.ntmps84
    go_wp2_with (go_at_call 45;refine (aB _ _ _ _).mono ?_;rintro e w1 ⟨rfl,rfl⟩)
    go_ret2
    exact⟨rfl,hbA⟩
 case inr.inr.inr.inr.inr.inr.inr.inr.inr.inr.inr.inr.inr.inr.inr.inr.inr.inr.inr.inr.inr.inr.inr.inl=>
  subst h24;by_cases h:0<=a/\a<fs.length
  ·obtain⟨k,rfl⟩:∃k:Nat,a=k:=⟨a.toNat,by omega⟩;have hk:k<fs.length:=by omega
   rw[uses24_in hk];obtain⟨b,off,ca,cc,rfl,-,d1,d2,d3,d4⟩:=hf k hk;have d1':=cell_later hbA d1;have g1:(k:Int)<=(fs.length:Int)-1:=by omega
   clear d1 d2 d3 d4 h hf;go_enter Tryz.func84,Tryz.ntmps84
   go_wp2_with (go_at_call 45;refine (aB _ _ _ _).mono ?_;rintro e w1 ⟨rfl,rfl⟩)
   go_ret2
   exact⟨rfl,hbA⟩
  ·rw[uses24_out h];rcases (show a<0\/(0<=a/\(fs.length:Int)-1<a) by omega) with h1 | ⟨h1,h2⟩
   all_goals
    clear h;go_enter Tryz.func84,Tryz.ntmps84
    go_wp2_with (go_at_call 45;refine (aB _ _ _ _).mono ?_;rintro e w1 ⟨rfl,rfl⟩)
    go_ret2
    exact⟨rfl,hbA⟩
 all_goals
  go_enter Tryz.func84,Tryz.ntmps84
  go_wp2_with (go_at_call 45;refine (aB _ _ _ _).mono ?_;rintro e w1 ⟨rfl,rfl⟩)
  go_ret2
  exact⟨rfl,hbA⟩
end Go.Proofs.YtdlkbbgmjilccaaGreatDoor
