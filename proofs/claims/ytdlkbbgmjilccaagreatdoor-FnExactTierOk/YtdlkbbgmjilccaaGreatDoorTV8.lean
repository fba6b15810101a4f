/- TV8 -/
import Derived.Test.YtdlkbbgmjilccaaGreatDoorTV7
import Derived.Laws.StructEq
set_option maxHeartbeats 32000000
set_option maxRecDepth 100000
namespace Go.Proofs.YtdlkbbgmjilccaaGreatDoor
open Go.RowKit
def cZ (fs:List Fn)(t:Int)(n:Int):Prop:=0<=t/\∃(h:t.toNat<fs.length),fs[t.toNat].params=n
def dp (fs:List Fn)(f p t:Int)(r:Option Si):Prop:=
 (11<=((insD fs f p).getD (0,0)).1/\((insD fs f p).getD (0,0)).1<=14/\r=some ⟨f,p,1,0⟩) \/
 (((insD fs f p).getD (0,0)).1=23/\cZ fs t ((insD fs f p).getD (0,0)).2/\r=some ⟨f,p,2,t⟩) \/
 (¬(11<=((insD fs f p).getD (0,0)).1/\((insD fs f p).getD (0,0)).1<=14)/\¬(((insD fs f p).getD (0,0)).1=23/\cZ fs t ((insD fs f p).getD (0,0)).2)/\r=none)
theorem guessD_one{fs:List Fn}{f p t:Int}{r r':Option Si}(h:dp fs f p t r)(h':dp fs f p t r'):r=r':=by
 unfold dp at h h';rcases h with ⟨x1,x2,x3⟩ | ⟨x1,x2,x3⟩ | ⟨x1,x2,x3⟩<;>rcases h' with ⟨y1,y2,y3⟩ | ⟨y1,y2,y3⟩ | ⟨y1,y2,y3⟩<;>first | (rw[x3,y3];done) | (exfalso;omega) | (exfalso;exact y1 ⟨x1,x2⟩) | (exfalso;exact x1 ⟨y1,y2⟩) | (exfalso;exact y2 ⟨x1,x2⟩) | (exfalso;exact x2 ⟨y1,y2⟩)
def fU (fs:List Fn)(f p t:Int)(w:World)(e:Ending)(w':World):Prop:=∃r,dp fs f p t r/\e=.returned (.tuple #[.agg (r.getD ⟨0,0,0,0⟩).cells,.bool r.isSome])/\Below w.heap.size w w'
theorem guessAt_any(a1 a2:Option Addr)(nt c1 c2:Nat)(fs:List Fn)(f p t:Int)(w:World)(hc:∀f∈fs,f.code.length<=1048576)(hm:FnsAt w 0 a2 fs) :
  Calls Tryz.prog 221 #[.agg #[.slice a1 nt c1,.slice a2 fs.length c2],.agg #[.int .i64 f,.int .i64 p],.int .i64 t] w (fU fs f p t w):=by
 obtain⟨w0,hw0⟩:∃w0,w0=((w.alloc (.cells #[.slice a1 nt c1,.slice a2 fs.length c2] 42)).alloc (.cells #[.int .i64 f,.int .i64 p] 195)).alloc (.cells #[.int .i64 0,.int .i64 0,.int .i64 0,.int .i64 0] 171):=⟨_,rfl⟩;have hB:Below w.heap.size w w0:=by rw[hw0];exact ((gM.alloc nL _).alloc (by simp) _).alloc (by simp;omega) _
 have hX:w0.heap[w.heap.size]?=some (.cells #[.slice a1 nt c1,.slice a2 fs.length c2] 42 (0,0)):=by rw[hw0];exact al (al (ah _ _ _) _) _
 have hY:w0.heap[w.heap.size+1]?=some (.cells #[.int .i64 f,.int .i64 p] 195 (0,0)):=by rw[hw0];exact al (by simpa using ah (w.alloc (.cells #[.slice a1 nt c1,.slice a2 fs.length c2] 42)) #[.int .i64 f,.int .i64 p] 195) _
 have hR:w0.heap[w.heap.size+1+1]?=some (.cells #[.int .i64 0,.int .i64 0,.int .i64 0,.int .i64 0] 171 (0,0)):=by rw[hw0];simpa using ah ((w.alloc (.cells #[.slice a1 nt c1,.slice a2 fs.length c2] 42)).alloc (.cells #[.int .i64 f,.int .i64 p] 195)) #[.int .i64 0,.int .i64 0,.int .i64 0,.int .i64 0] 171
 obtain⟨op,hop⟩:∃op,op=((insD fs f p).getD (0,0)).1:=⟨_,rfl⟩;obtain⟨ar,har⟩:∃ar,ar=((insD fs f p).getD (0,0)).2:=⟨_,rfl⟩;have hI:=dG a1 a2 nt c1 c2 fs f p w0 hc (hm.mono hB);have HP:Hid (∀e w',((11<=op/\op<=14->e=.returned (.tuple #[.agg #[.int .i64 f,.int .i64 p,.int .i64 1,.int .i64 0],.bool true]))/\(op=23/\cZ fs t ar->e=.returned (.tuple #[.agg #[.int .i64 f,.int .i64 p,.int .i64 2,.int .i64 t],.bool true]))/\(¬(11<=op/\op<=14)->¬(op=23/\cZ fs t ar)->e=.returned (.tuple #[.agg #[.int .i64 0,.int .i64 0,.int .i64 0,.int .i64 0],.bool false]))/\Below w.heap.size w w')->fU fs f p t w e w'):=by
  show ∀e w',_->_
  rintro e w' ⟨h1,h2,h3,h4⟩;rw[hop] at h1;rw[hop,har] at h2 h3;by_cases x:11<=((insD fs f p).getD (0,0)).1/\((insD fs f p).getD (0,0)).1<=14
  ·exact⟨_,.inl ⟨x.1,x.2,rfl⟩,h1 x,h4⟩
  ·by_cases y:((insD fs f p).getD (0,0)).1=23/\cZ fs t ((insD fs f p).getD (0,0)).2
   ·exact⟨_,.inr (.inl ⟨y.1,y.2,rfl⟩),h2 y,h4⟩
   ·exact⟨_,.inr (.inr ⟨x,y,rfl⟩),h3 x y,h4⟩
 rw[<-hop,<-har] at hI;clear hop har;go_enter Tryz.func221,Tryz.ntmps221
 go_wp2_with fail
 rw[<-hw0];clear hw0;refine hI.mono ?_;rintro e w1 ⟨rfl,hb1⟩;clear hI;have hb2:Below w1.heap.size w1 (w1.alloc (.cells #[.int .i64 op,.int .i64 ar] 153)):=gM.alloc nL _;have hV3:=ah w1 #[.int .i64 op,.int .i64 ar] 153;have hb3:=hb1.trans (hb2.mono hb1.size);have hX3:=ab hX hb3;have hY3:=ab hY hb3;have hR3:=ab hR hb3;have HB3:Hid (Below w.heap.size w (w1.alloc (.cells #[.int .i64 op,.int .i64 ar] 153))):=hB.trans (hb3.mono hB.size);have hm3:=hm.mono HB3.out;have HZ1:Hid (w0.heap.size<=w1.heap.size):=hb1.size;obtain⟨w3,hw3⟩:∃w3,w3=w1.alloc (.cells #[.int .i64 op,.int .i64 ar] 153):=⟨_,rfl⟩;rw[<-hw3] at hV3 hX3 hY3 hR3 HB3 hm3;have v1:=aa hV3;have x1:=aa hX3;have y1:=aa hY3;have z1:=aa hR3;have z2:=am hR3;clear hb1 hb2 hb3 hX hY hR hB hV3 hX3 hY3 hm;go_upto_region 2 with fail
 rw[<-hw3];clear hw3;by_cases h6:11<=op/\op<=14
 ·have H6:Hid (11<=op/\op<=14):=h6;have HN5:Hid (op≠23):=by show op≠23;omega
  clear h6;go_wp2_with (go_at_call 119;refine (bY H6.out _).mono ?_;rintro e w' ⟨rfl,rfl⟩)
  refine bodyPost_ret (v:=.tuple #[.agg #[.int .i64 f,.int .i64 p,.int .i64 1,.int .i64 0],.bool true]) (by simp[results,Tryz.results221,go_sem,z1]) rfl (HP.out _ _ ⟨fun _=>rfl,fun h=>absurd h.1 HN5.out,fun h=>absurd H6.out h,?_⟩);repeat (first | refine Below.setCell ?_ (by first | omega | (simp;omega) | simp) _ | with_reducible exact HB3.out | exact aC HB3.out _)
 have H6:Hid (¬(11<=op/\op<=14)):=h6;clear h6;go_wp2_with (go_at_call 119;refine (numberOp_no H6.out _).mono ?_;rintro e w' ⟨rfl,rfl⟩)
 by_cases h5:op=23
 case neg=>
  have HNT:Hid (¬(op=23/\cZ fs t ar)):=fun h=>h5 h.1
  have k5:(op == 23)=false:=by simpa using h5
  go_big_quiet (fail)
  go_wp2;refine bodyPost_ret (v:=.tuple #[.agg #[.int .i64 0,.int .i64 0,.int .i64 0,.int .i64 0],.bool false]) (by simp[results,Tryz.results221,go_sem,z1]) rfl (HP.out _ _ ⟨fun h=>absurd h H6.out,fun h=>absurd h HNT.out,fun _ _=>rfl,?_⟩);repeat (first | refine Below.setCell ?_ (by first | omega | (simp;omega) | simp) _ | with_reducible exact HB3.out | exact aC HB3.out _)
 subst h5;by_cases h7:0<=t
 case neg=>
  have HNT:Hid (¬((23:Int)=23/\cZ fs t ar)):=fun h=>h7 h.2.1
  go_big_quiet (fail)
  go_wp2;refine bodyPost_ret (v:=.tuple #[.agg #[.int .i64 0,.int .i64 0,.int .i64 0,.int .i64 0],.bool false]) (by simp[results,Tryz.results221,go_sem,z1]) rfl (HP.out _ _ ⟨fun h=>absurd h H6.out,fun h=>absurd h HNT.out,fun _ _=>rfl,?_⟩);repeat (first | refine Below.setCell ?_ (by first | omega | (simp;omega) | simp) _ | with_reducible exact HB3.out | exact aC HB3.out _)
 obtain⟨t,rfl⟩:∃t':Nat,t=t':=⟨t.toNat,by omega⟩;by_cases h8:t<fs.length
 case neg=>
  have HNT:Hid (¬((23:Int)=23/\cZ fs t ar)):=fun h=>by obtain⟨-,-,hf,-⟩:=h;simp at hf;omega
  have g1:(0:Int)<=(t:Int):=by omega
  have g2:(fs.length:Int)<=(t:Int):=by omega
  go_big_quiet (fail)
  go_wp2;refine bodyPost_ret (v:=.tuple #[.agg #[.int .i64 0,.int .i64 0,.int .i64 0,.int .i64 0],.bool false]) (by simp[results,Tryz.results221,go_sem,z1]) rfl (HP.out _ _ ⟨fun h=>absurd h H6.out,fun h=>absurd h HNT.out,fun _ _=>rfl,?_⟩);repeat (first | refine Below.setCell ?_ (by first | omega | (simp;omega) | simp) _ | with_reducible exact HB3.out | exact aC HB3.out _)
 obtain⟨b,off,ca,cc,rfl,-,d1,d2,d3,-⟩:=hm3 t h8;clear d2 d3;obtain⟨pr,hpr⟩:∃pr,pr=fs[t].params:=⟨_,rfl⟩;rw[<-hpr] at d1;have HPR:Hid (cZ fs t ar↔pr=ar):=by
  show _↔_
  rw[hpr];exact⟨fun h=>by obtain⟨-,hf,he⟩:=h;simpa using he,fun h=>⟨by omega,by simpa using h8,by simpa using h⟩⟩
 clear hpr;by_cases h9:pr=ar
 ·subst h9;have HT:Hid (cZ fs t pr):=HPR.out.2 rfl;have g1:(0:Int)<=(t:Int):=by omega
  have g2:¬(fs.length:Int)<=(t:Int):=by omega
  go_big_quiet (fail)
  go_wp2;refine bodyPost_ret (v:=.tuple #[.agg #[.int .i64 f,.int .i64 p,.int .i64 2,.int .i64 t],.bool true]) (by simp[results,Tryz.results221,go_sem,z1]) rfl (HP.out _ _ ⟨fun h=>absurd h H6.out,fun _=>rfl,fun _ h=>absurd (by first | exact⟨rfl,HT.out⟩ | exact⟨trivial,HT.out⟩) h,?_⟩)
  repeat (first | refine Below.setCell ?_ (by first | omega | (simp;omega) | simp) _ | with_reducible exact HB3.out | exact aC HB3.out _)
 ·have HNT:Hid (¬((23:Int)=23/\cZ fs t ar)):=fun h=>h9 (HPR.out.1 h.2)
  have g1:(0:Int)<=(t:Int):=by omega
  have g2:¬(fs.length:Int)<=(t:Int):=by omega
  go_big_quiet (fail)
  go_wp2;refine bodyPost_ret (v:=.tuple #[.agg #[.int .i64 0,.int .i64 0,.int .i64 0,.int .i64 0],.bool false]) (by simp[results,Tryz.results221,go_sem,z1]) rfl (HP.out _ _ ⟨fun h=>absurd h H6.out,fun h=>absurd h HNT.out,fun _ _=>rfl,?_⟩);repeat (first | refine Below.setCell ?_ (by first | omega | (simp;omega) | simp) _ | with_reducible exact HB3.out | exact aC HB3.out _)
def num (n:Int):Bool:=decide (-1000000000<=n) && decide (n<=1000000000)
theorem sNum_any(n:Int)(w:World):Calls Tryz.prog 129 #[.int .i64 n] w fun e w'=>e=.returned (.bool (num n))/\w'=w:=by
 go_enter Tryz.func129,Tryz.ntmps129
 go_wp2_with fail
 refine (aB _ _ _ _).mono ?_;rintro e w1 ⟨rfl,rfl⟩;go_wp2;go_ret
 exact⟨rfl,rfl⟩
theorem cS(k n:Int)(s:ByteArray)(w:World) :
  Calls Tryz.prog 51 #[.agg #[.int .i64 k,.int .i64 n,.string s]] w fun e w'=>e=.returned (.agg #[.int .i64 k,.int .i64 n,.string s])/\Below w.heap.size w w':=by
 go_enter Tryz.func51,Tryz.ntmps51
 go_wp2;refine bodyPost_ret (v:=.agg #[.int .i64 k,.int .i64 n,.string s]) (by simp[results,Tryz.results51,go_sem]) rfl ⟨rfl,?_⟩;repeat (first | exact Below.refl _ _ | refine Below.alloc ?_ (by first | exact Nat.le_refl _ | (simp<;>omega)) _ | refine Below.setCell ?_ (by first | exact Nat.le_refl _ | (simp<;>omega)) _)
theorem cW(k n l:Int)(s:ByteArray)(w:World)(h0:0<=l)(h1:l<=1048576)(hs:s.size<=maxLen) :
  Calls Tryz.prog 40 #[.agg #[.int .i64 k,.int .i64 n,.string s],.int .i64 l] w fun e w'=>e=.returned (.int .i64 (if l<(s.size:Int) then -1 else l-(s.size:Int)))/\Below w.heap.size w w':=by
 unfold maxLen at hs;by_cases h:l<(s.size:Int)
 ·rw[if_pos h];go_enter Tryz.func40,Tryz.ntmps40
  go_wp2;go_ret
  exact⟨rfl,gM.alloc nL _⟩
 ·rw[if_neg h];go_enter Tryz.func40,Tryz.ntmps40
  go_wp2;go_ret
  exact⟨rfl,gM.alloc nL _⟩
def bQ (k n:Int)(s:ByteArray):Value:=
 if k=0 then .iface 282 (.agg #[]) else if k=1 then .iface 283 (.int .i64 n) else if k=2 then .iface 284 (.int .i64 n) else if k=3 then .iface 285 (.string s)
 else if k=4 then .iface 286 (.int .i64 n) else if k=5 then .iface 287 (.int .i64 n) else .iface 288 (.int .i64 k)
theorem aM(k n:Int)(s:ByteArray)(w:World) :
  Calls Tryz.prog 155 #[.agg #[.int .i64 k,.int .i64 n,.string s]] w fun e w'=>e=.returned (bQ k n s)/\Below w.heap.size w w':=by
 by_cases h0:k=0
 ·subst h0;go_enter Tryz.func155,Tryz.ntmps155
  go_wp2;go_ret
  exact⟨rfl,gM.alloc nL _⟩
 by_cases h1:k=1
 ·subst h1;go_enter Tryz.func155,Tryz.ntmps155
  go_wp2;go_ret
  exact⟨rfl,gM.alloc nL _⟩
 by_cases h2:k=2
 ·subst h2;go_enter Tryz.func155,Tryz.ntmps155
  go_wp2;go_ret
  exact⟨rfl,gM.alloc nL _⟩
 by_cases h3:k=3
 ·subst h3;go_enter Tryz.func155,Tryz.ntmps155
  go_wp2;go_ret
  exact⟨rfl,gM.alloc nL _⟩
 by_cases h4:k=4
 ·subst h4;go_enter Tryz.func155,Tryz.ntmps155
  go_wp2;go_ret
  exact⟨rfl,gM.alloc nL _⟩
 by_cases h5:k=5
 ·subst h5;go_enter Tryz.func155,Tryz.ntmps155
  go_wp2;go_ret
  exact⟨rfl,gM.alloc nL _⟩
 have e:bQ k n s=.iface 288 (.int .i64 k):=by simp[bQ,h0,h1,h2,h3,h4,h5]
 rw[e];clear e;have b0:(k == 0)=false:=by simpa using h0
 have b1:(k == 1)=false:=by simpa using h1
 have b2:(k == 2)=false:=by simpa using h2
 have b3:(k == 3)=false:=by simpa using h3
 have b4:(k == 4)=false:=by simpa using h4
 have b5:(k == 5)=false:=by simpa using h5
 clear h0 h1 h2 h3 h4 h5;go_enter Tryz.func155,Tryz.ntmps155
 go_wp2;go_ret
 exact⟨rfl,gM.alloc nL _⟩
theorem ej  (w:World):Calls Tryz.prog 252 #[.agg #[]] w fun e w'=>e=.returned (.agg #[.int .i64 0,.int .i64 0,.string ⟨#[]⟩])/\Below w.heap.size w w':=by
 go_enter Tryz.func252,Tryz.ntmps252
 go_wp2;refine bodyPost_ret (v:=.agg #[.int .i64 0,.int .i64 0,.string ⟨#[]⟩]) (by simp[results,Tryz.results252,go_sem]) rfl ⟨rfl,?_⟩;repeat (first | exact Below.refl _ _ | refine Below.alloc ?_ (by first | exact Nat.le_refl _ | (simp<;>omega)) _ | refine Below.setCell ?_ (by first | exact Nat.le_refl _ | (simp<;>omega)) _)
theorem eu(n:Int)(w:World):Calls Tryz.prog 255 #[.int .i64 n] w fun e w'=>e=.returned (.agg #[.int .i64 1,.int .i64 n,.string ⟨#[]⟩])/\Below w.heap.size w w':=by
 go_enter Tryz.func255,Tryz.ntmps255
 go_wp2;refine bodyPost_ret (v:=.agg #[.int .i64 1,.int .i64 n,.string ⟨#[]⟩]) (by simp[results,Tryz.results255,go_sem]) rfl ⟨rfl,?_⟩;repeat (first | exact Below.refl _ _ | refine Below.alloc ?_ (by first | exact Nat.le_refl _ | (simp<;>omega)) _ | refine Below.setCell ?_ (by first | exact Nat.le_refl _ | (simp<;>omega)) _)
theorem dT(n:Int)(w:World):Calls Tryz.prog 258 #[.int .i64 n] w fun e w'=>e=.returned (.agg #[.int .i64 2,.int .i64 n,.string ⟨#[]⟩])/\Below w.heap.size w w':=by
 go_enter Tryz.func258,Tryz.ntmps258
 go_wp2;refine bodyPost_ret (v:=.agg #[.int .i64 2,.int .i64 n,.string ⟨#[]⟩]) (by simp[results,Tryz.results258,go_sem]) rfl ⟨rfl,?_⟩;repeat (first | exact Below.refl _ _ | refine Below.alloc ?_ (by first | exact Nat.le_refl _ | (simp<;>omega)) _ | refine Below.setCell ?_ (by first | exact Nat.le_refl _ | (simp<;>omega)) _)
theorem dV(s:ByteArray)(w:World):Calls Tryz.prog 261 #[.string s] w fun e w'=>e=.returned (.agg #[.int .i64 3,.int .i64 0,.string s])/\Below w.heap.size w w':=by
 go_enter Tryz.func261,Tryz.ntmps261
 go_wp2;refine bodyPost_ret (v:=.agg #[.int .i64 3,.int .i64 0,.string s]) (by simp[results,Tryz.results261,go_sem]) rfl ⟨rfl,?_⟩;repeat (first | exact Below.refl _ _ | refine Below.alloc ?_ (by first | exact Nat.le_refl _ | (simp<;>omega)) _ | refine Below.setCell ?_ (by first | exact Nat.le_refl _ | (simp<;>omega)) _)
theorem eL(n:Int)(w:World):Calls Tryz.prog 264 #[.int .i64 n] w fun e w'=>e=.returned (.agg #[.int .i64 4,.int .i64 n,.string ⟨#[]⟩])/\Below w.heap.size w w':=by
 go_enter Tryz.func264,Tryz.ntmps264
 go_wp2;refine bodyPost_ret (v:=.agg #[.int .i64 4,.int .i64 n,.string ⟨#[]⟩]) (by simp[results,Tryz.results264,go_sem]) rfl ⟨rfl,?_⟩;repeat (first | exact Below.refl _ _ | refine Below.alloc ?_ (by first | exact Nat.le_refl _ | (simp<;>omega)) _ | refine Below.setCell ?_ (by first | exact Nat.le_refl _ | (simp<;>omega)) _)
theorem eJ(n:Int)(w:World):Calls Tryz.prog 267 #[.int .i64 n] w fun e w'=>e=.returned (.agg #[.int .i64 5,.int .i64 n,.string ⟨#[]⟩])/\Below w.heap.size w w':=by
 go_enter Tryz.func267,Tryz.ntmps267
 go_wp2;refine bodyPost_ret (v:=.agg #[.int .i64 5,.int .i64 n,.string ⟨#[]⟩]) (by simp[results,Tryz.results267,go_sem]) rfl ⟨rfl,?_⟩;repeat (first | exact Below.refl _ _ | refine Below.alloc ?_ (by first | exact Nat.le_refl _ | (simp<;>omega)) _ | refine Below.setCell ?_ (by first | exact Nat.le_refl _ | (simp<;>omega)) _)
theorem eS(k:Int)(w:World):Calls Tryz.prog 270 #[.int .i64 k] w fun e w'=>e=.returned (.agg #[.int .i64 k,.int .i64 0,.string ⟨#[]⟩])/\Below w.heap.size w w':=by
 go_enter Tryz.func270,Tryz.ntmps270
 go_wp2;refine bodyPost_ret (v:=.agg #[.int .i64 k,.int .i64 0,.string ⟨#[]⟩]) (by simp[results,Tryz.results270,go_sem]) rfl ⟨rfl,?_⟩;repeat (first | exact Below.refl _ _ | refine Below.alloc ?_ (by first | exact Nat.le_refl _ | (simp<;>omega)) _ | refine Below.setCell ?_ (by first | exact Nat.le_refl _ | (simp<;>omega)) _)
theorem okIn_nil  (a1 a2:Option Addr)(nt c1 nf c2:Nat)(r:Int)(w:World):Calls Tryz.prog 250 #[.agg #[],.agg #[.slice a1 nt c1,.slice a2 nf c2],.int .i64 r] w fun e w'=>e=.returned (.bool (true))/\Below w.heap.size w w':=by
 go_enter Tryz.func250,Tryz.ntmps250
 go_wp2;go_ret
 exact⟨rfl,(gM.alloc nL _).alloc (by simp) _⟩
theorem okIn_int(n:Int)(a1 a2:Option Addr)(nt c1 nf c2:Nat)(r:Int)(w:World):Calls Tryz.prog 253 #[.int .i64 n,.agg #[.slice a1 nt c1,.slice a2 nf c2],.int .i64 r] w fun e w'=>e=.returned (.bool (num n))/\Below w.heap.size w w':=by
 have hB:Below w.heap.size w (w.alloc (.cells #[.slice a1 nt c1,.slice a2 nf c2] 42)):=gM.alloc nL _;by_cases h1:-1000000000<=n
 ·by_cases h2:n<=1000000000
  all_goals
   go_enter Tryz.func253,Tryz.ntmps253
   go_wp2;go_ret
   exact⟨aj (by rw[Bool.eq_iff_iff];simp[num];omega),hB⟩
 ·go_enter Tryz.func253,Tryz.ntmps253
  go_wp2;go_ret
  exact⟨aj (by rw[Bool.eq_iff_iff];simp[num];omega),hB⟩
theorem okIn_bool(n:Int)(a1 a2:Option Addr)(nt c1 nf c2:Nat)(r:Int)(w:World):Calls Tryz.prog 256 #[.int .i64 n,.agg #[.slice a1 nt c1,.slice a2 nf c2],.int .i64 r] w fun e w'=>e=.returned (.bool (decide (n=0) || decide (n=1)))/\Below w.heap.size w w':=by
 have hB:Below w.heap.size w (w.alloc (.cells #[.slice a1 nt c1,.slice a2 nf c2] 42)):=gM.alloc nL _;by_cases h1:n=0
 ·subst h1;go_enter Tryz.func256,Tryz.ntmps256
  go_wp2;go_ret
  exact⟨rfl,hB⟩
 ·have b1:(n == 0)=false:=by simpa using h1
  by_cases h2:n=1
  ·subst h2;go_enter Tryz.func256,Tryz.ntmps256
   go_wp2;go_ret
   exact⟨rfl,hB⟩
  ·have b2:(n == 1)=false:=by simpa using h2
   rw[show (decide (n=0) || decide (n=1))=false by simp[h1,h2]]
   clear h1 h2;go_enter Tryz.func256,Tryz.ntmps256
   go_wp2;go_ret
   exact⟨rfl,hB⟩
theorem okIn_text(s:ByteArray)(hs:s.size<=1048576)(a1 a2:Option Addr)(nt c1 nf c2:Nat)(r:Int)(w:World):Calls Tryz.prog 259 #[.string s,.agg #[.slice a1 nt c1,.slice a2 nf c2],.int .i64 r] w fun e w'=>e=.returned (.bool (bg s))/\Below w.heap.size w w':=by
 have hB:Below w.heap.size w (w.alloc (.cells #[.slice a1 nt c1,.slice a2 nf c2] 42)):=gM.alloc nL _;go_enter Tryz.func259,Tryz.ntmps259
 go_wp2_with fail
 refine (dj _ _ hs).mono ?_;rintro e w1 ⟨rfl,rfl⟩;go_wp2;go_ret
 exact⟨rfl,hB⟩
theorem okIn_rec(n:Int)(a1 a2:Option Addr)(nt c1 nf c2:Nat)(r:Int)(w:World):Calls Tryz.prog 262 #[.int .i64 n,.agg #[.slice a1 nt c1,.slice a2 nf c2],.int .i64 r] w fun e w'=>e=.returned (.bool (decide (0<=n) && decide (n<r)))/\Below w.heap.size w w':=by
 have hB:Below w.heap.size w (w.alloc (.cells #[.slice a1 nt c1,.slice a2 nf c2] 42)):=gM.alloc nL _;by_cases h1:0<=n
 ·by_cases h2:n<r
  all_goals
   go_enter Tryz.func262,Tryz.ntmps262
   go_wp2;go_ret
   exact⟨aj (by rw[Bool.eq_iff_iff];simp;omega),hB⟩
 ·go_enter Tryz.func262,Tryz.ntmps262
  go_wp2;go_ret
  exact⟨aj (by rw[Bool.eq_iff_iff];simp;omega),hB⟩
theorem okIn_fun(n:Int)(a1 a2:Option Addr)(nt c1 nf c2:Nat)(r:Int)(w:World):Calls Tryz.prog 265 #[.int .i64 n,.agg #[.slice a1 nt c1,.slice a2 nf c2],.int .i64 r] w fun e w'=>e=.returned (.bool (decide (0<=n) && decide (n<(nf:Int))))/\Below w.heap.size w w':=by
 have hB:Below w.heap.size w (w.alloc (.cells #[.slice a1 nt c1,.slice a2 nf c2] 42)):=gM.alloc nL _;by_cases h1:0<=n
 ·by_cases h2:n<(nf:Int)
  all_goals
   go_enter Tryz.func265,Tryz.ntmps265
   go_wp2;go_ret
   exact⟨aj (by rw[Bool.eq_iff_iff];simp;omega),hB⟩
 ·go_enter Tryz.func265,Tryz.ntmps265
  go_wp2;go_ret
  exact⟨aj (by rw[Bool.eq_iff_iff];simp;omega),hB⟩
theorem okIn_no(k:Int)(a1 a2:Option Addr)(nt c1 nf c2:Nat)(r:Int)(w:World):Calls Tryz.prog 268 #[.int .i64 k,.agg #[.slice a1 nt c1,.slice a2 nf c2],.int .i64 r] w fun e w'=>e=.returned (.bool (false))/\Below w.heap.size w w':=by
 have hB:Below w.heap.size w (w.alloc (.cells #[.slice a1 nt c1,.slice a2 nf c2] 42)):=gM.alloc nL _;go_enter Tryz.func268,Tryz.ntmps268
 go_wp2;go_ret
 exact⟨rfl,hB⟩
theorem ax(w:World)(C:Array Value)(t:TypeId)(g:Nat)(h:w.heap.size=g):(w.alloc (.cells C t)).heap[g]?=some (.cells C t (0,0)):=by
 subst h;exact ah w C t
theorem a7{s:ByteArray}(h:s≠⟨#[]⟩):(([]:List UInt8) == s.toList)=false/\(s.toList == ([]:List UInt8))=false:=by
 have h':s.toList≠[]:=by
  intro e;apply h
  apply ByteArray.ext
  have:s.data.toList=[]:=by simpa[ByteArray.toList_eq] using e
  simpa using this
 constructor
 ·rw[beq_eq_false_iff_ne];exact Ne.symm h'
 ·rw[beq_eq_false_iff_ne];exact h'
end Go.Proofs.YtdlkbbgmjilccaaGreatDoor
