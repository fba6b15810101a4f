/- RV23 -/
import Derived.Test.YtbjmgmmekmfjhaaGreatDoorRV22
import Derived.Test.YtbjmgmmekmfjhaaGreatDoorRV21
import Derived.Lib.ItoaMem
set_option maxHeartbeats 32000000
set_option maxRecDepth 100000
namespace Go.Proofs.YtbjmgmmekmfjhaaGreatDoor
open Go.RowKit
def ct (n:Nat):ByteArray:=⟨(Lib.decDigits n).toArray⟩
def gD (k:Nat):ByteArray:=⟨#[109]⟩++ct k
theorem bytes_append(a b:List UInt8):(⟨(a++b).toArray⟩:ByteArray)=⟨a.toArray⟩++⟨b.toArray⟩:=by
 apply ByteArray.ext
 simp
theorem strOfNums_dig(n:Nat):strOfNums [48+(n:Int) % 10]=⟨#[UInt8.ofNat (48+n % 10)]⟩:=by
 have:(48+(n:Int) % 10).toNat=48+n % 10:=by omega
 unfold strOfNums;simp only[List.map_cons,List.map_nil]
 rw[this]
theorem dec_small{n:Nat}(h:n<10):ct n=⟨#[UInt8.ofNat (48+n % 10)]⟩:=by
 unfold ct;rw[Lib.decDigits,dif_pos h,Nat.mod_eq_of_lt h]
theorem dec_big{n:Nat}(h:¬n<10):ct n=ct (n / 10)++⟨#[UInt8.ofNat (48+n % 10)]⟩:=by
 unfold ct;rw[Lib.decDigits,dif_neg h,bytes_append]
theorem markText_is(k0:Nat)(w:World)(h0:0<k0)(h1:k0<=1000000000000000) :
  Calls Tryz.prog 85 #[.int .i64 k0] w fun e w'=>e=.returned (.string (gD k0))/\Below w.heap.size w w':=by
 have h0':(0:Int)<(k0:Int):=by omega
 go_enter Tryz.func85,Tryz.ntmps85
 go_wp2;go_loopw [0,3] (fun q o wr=>∃(x:Nat) (s:ByteArray),q=.int .i64 x/\o=.string s/\s.size+x<=k0/\Hid ((x=0->s=ct k0)/\(0<x->ct x++s=ct k0))/\Below w.heap.size w wr) (fun q _ _=>(intOf q).toNat)
 case atStart=>exact⟨k0,ByteArray.empty,rfl,rfl,by simp,⟨fun h=>by omega,fun _=>by simp⟩,Below.refl _ _⟩
 case round=>
  obtain⟨x,s,rfl,rfl,hsz,HD,hb⟩:=hrel;by_cases hx:0<x
  ·have hx':(0:Int)<(x:Int):=by omega
   have hcv:=run_convert_bytes_arg (P:=Tryz.prog) (wr.alloc (.cells #[.int .u8 (48+(x:Int) % 10)] 5)) 217 5 Tryz.underlying217 Tryz.underlying5 wr.heap.size 0 1 1 [48+(x:Int) % 10] rfl
    (fun i hi=>by
            have:i=0:=by omega
            subst this;rw[dJ];rfl) 9 Tryz.underlying9
   rw[strOfNums_dig] at hcv;have hsn:(⟨#[UInt8.ofNat (48+x % 10)]⟩:ByteArray).size<=1:=Nat.le_refl _;have HD2:Hid ((x / 10=0->(⟨#[UInt8.ofNat (48+x % 10)]⟩:ByteArray)++s=ct k0)/\(0<x / 10->ct (x / 10)++((⟨#[UInt8.ofNat (48+x % 10)]⟩:ByteArray)++s)=ct k0)):=by
    constructor
    ·intro h;rw[<-dec_small (by omega)];exact HD.out.2 hx
    ·intro h;have:=HD.out.2 hx;rw[dec_big (by omega)] at this;rw[<-ByteArray.append_assoc];exact this
   generalize (⟨#[UInt8.ofNat (48+x % 10)]⟩:ByteArray)=t at *
   clear HD;go_wp2;go_roundw
   case rel=>exact⟨x / 10,t++s,by go_num,rfl,by rw[ByteArray.size_append];omega,HD2,hb.alloc hb.size _⟩
   case measure=>simp[intOf];omega
  ·have hx':(x:Int)<=0:=by omega
   have hx0:x=0:=by omega
   have hs:Hid (s=ct k0):=HD.out.1 hx0;clear HD hx0;go_wp2;go_ret
   exact⟨by unfold gD;rw[<-hs.out];rfl,hb⟩
structure Just (g:Nat)(w w':World):Prop where
 below:∀B,B<=g->B<=w.heap.size->Below B w w'
 size:w.heap.size<=w'.heap.size
 block:∀k,k<w.heap.size->k≠g->w'.heap[k]?=w.heap[k]?
theorem Just.refl(g:Nat)(w:World):Just g w w:=⟨fun _ _ _=>Below.refl _ _,Nat.le_refl _,fun _ _ _=>rfl⟩
theorem Just.trans{g:Nat}{a b c:World}(h:Just g a b)(k:Just g b c):Just g a c:=
 ⟨fun B h1 h2=>(h.below B h1 h2).trans (k.below B h1 (Nat.le_trans h2 h.size)),Nat.le_trans h.size k.size,fun i hi hg=>by rw[k.block i (by have:=h.size;omega) hg];exact h.block i hi hg⟩
theorem Just.of{g:Nat}{a b:World}(h:Below a.heap.size a b):Just g a b:=⟨fun _ _ h2=>h.mono h2,h.size,fun k hk _=>h.block k hk⟩
theorem Just.set{g i:Nat}{a b:World}(h:Just g a b)(v:Value):Just g a (b.setCell ⟨g,i,none⟩ v):=
 ⟨fun B h1 h2=>(h.below B h1 h2).setCell h1 _,by have:=h.size;simpa using this,fun k hk hg=>by rw[Below.heap_setCell _ _ _ _ hg];exact h.block k hk hg⟩
theorem Just.kept{g k:Nat}{a b:World}{o:Obj}(h:Just g a b)(ho:a.heap[k]?=some o)(hk:k≠g):b.heap[k]?=some o:=by rw[h.block k (ay ho) hk];exact ho
def eB (w:World)(g n m k0:Nat):Prop:=∃cur:Array Value,w.heap[g]?=some (Obj.cells cur 80 (0,0))/\cur.size=n*3/\∀j,j<m->cur[j*3]?=some (.int .i64 ((k0+3*j:Nat):Int))/\cur[j*3+1]?=some (.int .i64 ((k0+3*j+1:Nat):Int))/\cur[j*3+2]?=some (.string (gD (k0+3*j+2)))
theorem eB.mono{w w':World}{g n m k0:Nat}(h:eB w g n m k0)(hb:Below w.heap.size w w'):eB w' g n m k0:=by
 obtain⟨c,h1,h2⟩:=h;exact⟨c,ah h1 hb,h2⟩
theorem cH(g n cap k0:Nat)(w:World)(hn:n<=1048576)(h1:k0<=900000000000000)(hblk0:a7 w g n) :
  Calls Tryz.prog 35 #[.slice (some ⟨g,0,none⟩) n cap,.int .i64 (k0:Int)] w fun e w'=>e=.returned (.int .i64 ((k0+3*n:Nat):Int))/\Just g w w'/\eB w' g n n k0:=by
 go_enter Tryz.func35,Tryz.ntmps35
 go_wp2;go_loopw [1,5] (fun q i wr=>∃(k:Nat),k<=n/\i=.int .i64 k/\q=.int .i64 ((k0+3*k:Nat):Int)/\Just g w wr/\eB wr g n k k0) (fun _ i _=>n-(intOf i).toNat)
 case atStart=>
  obtain⟨c,k1,k2⟩:=hblk0;exact⟨0,by omega,rfl,rfl,Just.refl _ _,⟨c,k1,k2,fun _ h=>absurd h (Nat.not_lt_zero _)⟩⟩
 case round=>
  obtain⟨k,hk,rfl,rfl,hj,cur,hC,hcs,hd⟩:=hrel;have HC:Hid (cur.size=n*3):=hcs;have HD:Hid (∀j,j<k->cur[j*3]?=some (.int .i64 ((k0+3*j:Nat):Int))/\cur[j*3+1]?=some (.int .i64 ((k0+3*j+1:Nat):Int))/\cur[j*3+2]?=some (.string (gD (k0+3*j+2)))):=hd;clear hd;by_cases hlt:k<n
  ·have hfz:=aq hC;obtain⟨y1,hcl⟩:∃v,wr.cell? ⟨g,k*3,none⟩=some v:=⟨cur[k*3]'(by rw[HC.out];omega),by rw[ae hC];exact Array.getElem?_eq_getElem _⟩;obtain⟨y2,hcl2⟩:∃v,wr.cell? ⟨g,k*3+1,none⟩=some v:=⟨cur[k*3+1]'(by rw[HC.out];omega),by rw[ae hC];exact Array.getElem?_eq_getElem _⟩;clear hcs;obtain⟨wx,hwx⟩:∃wx,wx=(wr.setCell ⟨g,k*3,none⟩ (.int .i64 ((k0+3*k:Nat):Int))).setCell ⟨g,k*3+1,none⟩ (.int .i64 ((k0+3*k+1:Nat):Int)):=⟨_,rfl⟩;have hCx:wx.heap[g]?=some (.cells ((cur.setIfInBounds (k*3) (.int .i64 ((k0+3*k:Nat):Int))).setIfInBounds (k*3+1) (.int .i64 ((k0+3*k+1:Nat):Int))) 80 (0,0)):=by rw[hwx];exact ak (ak hC _) _
   have hjx:Just g w wx:=by rw[hwx];exact (hj.set _).set _
   have e1:((k0+3*k:Nat):Int)+1=((k0+3*k+1:Nat):Int):=by omega
   have e2:((k0+3*k+1:Nat):Int)+1=((k0+3*k+2:Nat):Int):=by omega
   obtain⟨A0,hA0⟩:∃A0:Int,A0=((k0+3*k:Nat):Int):=⟨_,rfl⟩;have hA1:Hid (A0=((k0+3*k:Nat):Int)):=hA0;have hAlo:0<=A0:=by omega
   have hAhi:A0<=950000000000000:=by omega
   rw[<-hA0] at hwx ⊢;rw[show ((k0+3*k+1:Nat):Int)=A0+1 by omega] at hwx
   clear hA0 e1 e2;go_wp2_with fail
   rw[<-hwx];have hmt:=markText_is (k0+3*k+2) wx (by omega) (by omega);rw[show ((k0+3*k+2:Nat):Int)=A0+1+1 by have:=hA1.out;omega] at hmt
   refine hmt.mono ?_;rintro e w2 ⟨rfl,hb2⟩;have hC2:=ah hCx hb2;have hj2:=hjx.trans (Just.of hb2);have hfz2:=aq hC2;obtain⟨y3,hcl3⟩:∃v,w2.cell? ⟨g,k*3+2,none⟩=some v:=⟨_,by rw[ae hC2];exact Array.getElem?_eq_getElem (by have:=HC.out;simp;omega)⟩;clear hmt hwx hC hCx hjx hb2 hfz hcl hcl2 hj;go_wp2;go_roundw
   case rel=>
    have hcs:=HC.out;have hA:=hA1.out;refine⟨k+1,by omega,by go_num,by rw[show ((k0+3*(k+1):Nat):Int)=A0+1+1+1 by omega],hj2.set _,_,ak hC2 _,by simpa using hcs,?_⟩
    intro j hj;by_cases e:j=k
    ·subst e;refine⟨?_,?_,?_⟩
     ·rw[aj _ (by omega),aj _ (by omega)];exact aC _ (by omega)
     ·rw[aj _ (by omega)];exact aC _ (by simp;omega)
     ·exact aC _ (by simp;omega)
    ·obtain⟨d1,d2,d3⟩:=HD.out j (by omega);refine⟨?_,?_,?_⟩
     ·rw[aj _ (by omega),aj _ (by omega),aj _ (by omega)];exact d1
     ·rw[aj _ (by omega),aj _ (by omega),aj _ (by omega)];exact d2
     ·rw[aj _ (by omega),aj _ (by omega),aj _ (by omega)];exact d3
   case measure=>simp[intOf];omega
  ·go_wp2;go_ret
   have hkn:k=n:=by omega
   subst hkn;exact⟨rfl,hj,cur,hC,hcs,HD.out⟩
theorem hidR{p:Prop}(h:p):Hid p:=h
structure Only (S:Nat->Prop)(w w':World):Prop where
 below:∀B,(∀k,S k->B<=k)->B<=w.heap.size->Below B w w'
 size:w.heap.size<=w'.heap.size
 block:∀k,k<w.heap.size->¬S k->w'.heap[k]?=w.heap[k]?
theorem Only.refl(S:Nat->Prop)(w:World):Only S w w:=⟨fun _ _ _=>Below.refl _ _,Nat.le_refl _,fun _ _ _=>rfl⟩
theorem Only.trans{S:Nat->Prop}{a b c:World}(h:Only S a b)(k:Only S b c):Only S a c:=
 ⟨fun B hB h2=>(h.below B hB h2).trans (k.below B hB (Nat.le_trans h2 h.size)),Nat.le_trans h.size k.size,fun i hi hS=>(k.block i (Nat.lt_of_lt_of_le hi h.size) hS).trans (h.block i hi hS)⟩
theorem Only.just{S:Nat->Prop}{g:Nat}{a b:World}(h:Just g a b)(hS:S g):Only S a b:=⟨fun B hB h2=>h.below B (hB g hS) h2,h.size,fun _ hk hs=>h.block _ hk (fun e=>hs (e▸hS))⟩
theorem Only.set{S:Nat->Prop}{g i:Nat}{a b:World}(h:Only S a b)(hS:S g)(v:Value):Only S a (b.setCell ⟨g,i,none⟩ v):=
 ⟨fun B hB h2=>(h.below B hB h2).setCell (hB g hS) _,by simpa using h.size,fun k hk hs=>by rw[Below.heap_setCell _ _ _ _ (fun e=>hs (by rw[show k=g from e];exact hS))];exact h.block k hk hs⟩
theorem Only.kept{S:Nat->Prop}{k:Nat}{a b:World}{o:Obj}(h:Only S a b)(ho:a.heap[k]?=some o)(hk:¬S k):b.heap[k]?=some o:=by rw[h.block k (ay ho) hk];exact ho
def Rng (lo hi b:Nat):Prop:=lo<=b/\b<hi
theorem a7.shape{w w':World}{g n:Nat}(h:a7 w g n)(hs:aN w w'):a7 w' g n:=by
 obtain⟨c,h1,h2⟩:=h;obtain⟨c',h3,h4⟩:=hs g c 80 h1;exact⟨c',h3,h4.trans h2⟩
theorem just_keeps{w w':World}{g n k0 lo hi:Nat}(hb:a7 w g n)(hj:Just g w w')(hm:eB w' g n n k0)(hl:lo<=g)(hh:g<hi):aT lo [80] w w'/\aN w w'/\Only (Rng lo hi) w w':=by
 obtain⟨c,h1,h2⟩:=hb;obtain⟨c',h3,h4,-⟩:=hm;have h0:=hj.below 0 (Nat.zero_le _) (Nat.zero_le _);refine⟨⟨h0.os,h0.tape,h0.output,hj.size,fun k o hk ho=>?_⟩,fun b x t hbx=>?_,Only.just hj ⟨hl,hh⟩⟩
 ·by_cases e:k=g
  ·subst e;rw[h1] at hk
   cases hk;rcases ho with ho | ho
   ·omega
   ·exact absurd (by simp[ofTypes]) ho
  ·exact hj.kept hk e
 ·by_cases e:b=g
  ·subst e;rw[h1] at hbx
   cases hbx;exact⟨c',h3,by omega⟩
  ·exact⟨x,hj.kept hbx e,rfl⟩
theorem markValueS_w(lo hi g n cap k0:Nat)(w:World)(hn:n<=1048576)(h1:k0<=900000000000000)(hl:lo<=g)(hh:g<hi)(hb:a7 w g n) :
  Calls Tryz.prog 35 #[.slice (some ⟨g,0,none⟩) n cap,.int .i64 (k0:Int)] w fun e w'=>e=.returned (.int .i64 ((k0+3*n:Nat):Int))/\aT lo [80] w w'/\aN w w'/\Only (Rng lo hi) w w':=
 (cH g n cap k0 w hn h1 hb).mono fun _ _ ⟨he,hj,hm⟩=>⟨he,just_keeps hb hj hm hl hh⟩
def RSh (w:World)(lo hi R:Nat)(rs:List (List Vl)):Prop:=∃cur:Array Value,w.heap[R]?=some (.cells cur 125 (0,0))/\cur.size=rs.length /\
 ∀j (hj:j<rs.length),∃g,cur[j]?=some (.slice (some ⟨g,0,none⟩) rs[j].length rs[j].length)/\Rng lo hi g/\a7 w g rs[j].length
theorem RB.sh{w:World}{lo:Nat}{a:Option Addr}{rs:List (List Vl)}(h:RB w lo a rs):∃R,a=some ⟨R,0,none⟩/\lo<=R/\RSh w lo w.heap.size R rs:=by
 obtain⟨R,cur,h1,h2,h3,h4,h5⟩:=h;refine⟨R,h1,h2,cur,h3,by omega,fun j hj=>?_⟩;obtain⟨g,d3,⟨-,x,e,e2,e3⟩⟩:=h5 j hj
 cases e;exact⟨g,d3,⟨e2,by obtain⟨c,hc,-⟩:=e3;exact ay hc⟩,e3⟩
theorem RSh.keep{w w':World}{lo hi R:Nat}{rs:List (List Vl)}(h:RSh w lo hi R rs){ts:List Nat}(hk:aT lo ts w w')(ht:125∉ts)(hs:aN w w'):RSh w' lo hi R rs:=by
 obtain⟨cur,h1,h2,h3⟩:=h;refine⟨cur,hk.cell h1 ht,h2,fun j hj=>?_⟩;obtain⟨g,d1,d3,d5⟩:=h3 j hj;exact⟨g,d1,d3,d5.shape hs⟩
theorem markRecS_w(lo hi R cap k0:Nat)(rs:List (List Vl))(w:World)(hn:rs.length<=1048576)(hc:∀r∈rs,r.length<=1048576)(h1:k0<=200000000000000)(hR:RSh w lo hi R rs) :
  Calls Tryz.prog 36 #[.slice (some ⟨R,0,none⟩) rs.length cap,.int .i64 (k0:Int)] w fun e w'=>∃k1:Nat,e=.returned (.int .i64 (k1:Int))/\k0<=k1/\k1<=k0+rs.length*4000000/\aT lo [80] w w'/\aN w w'/\Only (Rng lo hi) w w':=by
 go_enter Tryz.func36,Tryz.ntmps36
 go_wp2;go_loopw [1,5] (fun q i wr=>∃(k:Nat) (m:Nat),k<=rs.length/\i=.int .i64 k/\q=.int .i64 (m:Int)/\Hid (k0<=m/\m<=k0+k*4000000)/\Hid (aT lo [80] w wr)/\Hid (aN w wr)/\Hid (Only (Rng lo hi) w wr)/\Hid (RSh wr lo hi R rs)) (fun _ i _=>rs.length-(intOf i).toNat)
 case atStart=>exact⟨0,k0,by omega,rfl,rfl,⟨by omega,by omega⟩,aT.refl _ _ _,aN.refl _,Only.refl _ _,hR⟩
 case round=>
  obtain⟨k,m,hk,rfl,rfl,HM,HK,HS,HO,HF⟩:=hrel;by_cases hlt:k<rs.length
  ·have hmz:m<=300000000000000:=by have:=HM.out;omega
   obtain⟨cur,hC,hcs,hcd⟩:=HF.out;obtain⟨g,d1,dl,db⟩:=hcd k hlt;have z2:wr.cell? ⟨R,k,none⟩=some (.slice (some ⟨g,0,none⟩) rs[k].length rs[k].length):=by rw[ae hC];exact d1
   have hcl:=hc _ (g_m hlt);have hmk:=markValueS_w lo hi g rs[k].length rs[k].length m wr hcl (by omega) dl.1 dl.2 db;clear hC hcs hcd db d1;go_wp2_with fail
   refine hmk.mono ?_;rintro e w2 ⟨rfl,hk2,hs2,ho2⟩;have HO2:=hidR (HO.out.trans ho2);have HF2:=hidR (HF.out.keep hk2 (by decide) hs2);have HK2:=hidR (HK.out.trans hk2);have HS2:=hidR (HS.out.trans hs2);clear hmk hk2 hs2 ho2 z2;go_wp2;go_roundw
   case rel=>exact⟨k+1,m+3*rs[k].length,by omega,by go_num,rfl,by have h1:=HM.out;show _/\_;omega,HK2,HS2,HO2,HF2⟩
   case measure=>simp[intOf];omega
  ·have hkn:k=rs.length:=by omega
   subst hkn;go_wp2;go_ret
   exact⟨m,rfl,HM.out.1,HM.out.2,HK.out,HS.out,HO.out⟩
def fsz (fr:List Fr):Nat:=(fr.map fun f=>2+3*f.locals.length+3*f.stack.length).sum
theorem fZ{fr:List Fr}{k:Nat}(h:k<fr.length):fsz (fr.take (k+1))=fsz (fr.take k)+(2+3*fr[k].locals.length+3*fr[k].stack.length):=by
 unfold fsz;rw[List.take_succ_eq_append_getElem h,List.map_append,List.sum_append];simp
theorem gV{fr:List Fr}(hc:∀f∈fr,f.locals.length<=1048576/\f.stack.length<=1048576)(k:Nat)(hk:k<=fr.length):fsz (fr.take k)<=k*8000000:=by
 induction k with
 | zero=>simp[fsz]
 | succ n ih=>
  have:=ih (by omega);have h1:=hc fr[n] (g_m (by omega));rw[fZ (by omega)];omega
structure FAp (n:Nat)(la sa:Nat->Nat):Prop where
 li:∀i j,i<n->j<n->la i=la j->i=j
 si:∀i j,i<n->j<n->sa i=sa j->i=j
 ls:∀i j,i<n->j<n->la i≠sa j
def FMk (w:World)(F:Nat)(la sa:Nat->Nat)(fr:List Fr)(k0 m:Nat):Prop:=∃cur:Array Value,w.heap[F]?=some (.cells cur 136 (0,0))/\cur.size=fr.length*4 /\
 ∀j (hj:j<fr.length),cur[j*4+2]?=some (.slice (some ⟨la j,0,none⟩) fr[j].locals.length fr[j].locals.length)/\cur[j*4+3]?=some (.slice (some ⟨sa j,0,none⟩) fr[j].stack.length fr[j].stack.length) /\
  (j<m->cur[j*4]?=some (.int .i64 ((k0+fsz (fr.take j):Nat):Int))/\cur[j*4+1]?=some (.int .i64 ((k0+fsz (fr.take j):Nat)+1:Int))/\eB w (la j) fr[j].locals.length fr[j].locals.length (k0+fsz (fr.take j)+2)/\eB w (sa j) fr[j].stack.length fr[j].stack.length (k0+fsz (fr.take j)+2+3*fr[j].locals.length)) /\
  (m<=j->a7 w (la j) fr[j].locals.length/\a7 w (sa j) fr[j].stack.length)
theorem FMk.kept{w w':World}{F k0 m:Nat}{la sa:Nat->Nat}{fr:List Fr}(h:FMk w F la sa fr k0 m)(hk:∀b o,(b=F\/∃i,i<fr.length/\(b=la i\/b=sa i))->w.heap[b]?=some o->w'.heap[b]?=some o):FMk w' F la sa fr k0 m:=by
 obtain⟨cur,h1,h2,h3⟩:=h;refine⟨cur,hk F _ (.inl rfl) h1,h2,fun j hj=>?_⟩;obtain⟨d1,d2,d3,d4⟩:=h3 j hj;have L:∀o,w.heap[la j]?=some o->w'.heap[la j]?=some o:=fun o=>hk _ o (.inr ⟨j,hj,.inl rfl⟩)
 have S:∀o,w.heap[sa j]?=some o->w'.heap[sa j]?=some o:=fun o=>hk _ o (.inr ⟨j,hj,.inr rfl⟩)
 refine⟨d1,d2,fun e=>?_,fun e=>?_⟩
 ·obtain⟨x1,x2,⟨c,x3,x4⟩,⟨c',x5,x6⟩⟩:=d3 e;exact⟨x1,x2,⟨c,L _ x3,x4⟩,⟨c',S _ x5,x6⟩⟩
 ·obtain⟨⟨c,x3,x4⟩,⟨c',x5,x6⟩⟩:=d4 e;exact⟨⟨c,L _ x3,x4⟩,⟨c',S _ x5,x6⟩⟩
theorem FMk.step{wr w2 w3:World}{F k0 k:Nat}{la sa:Nat->Nat}{fr:List Fr}(h:FMk wr F la sa fr k0 k)(hA:FAp fr.length la sa)(hk:k<fr.length)
  (j1:Just (la k) ((wr.setCell ⟨F,k*4,none⟩ (.int .i64 ((k0+fsz (fr.take k):Nat):Int))).setCell ⟨F,k*4+1,none⟩ (.int .i64 ((k0+fsz (fr.take k):Nat)+1:Int))) w2) (m1:eB w2 (la k) fr[k].locals.length fr[k].locals.length (k0+fsz (fr.take k)+2))
  (j2:Just (sa k) w2 w3) (m2:eB w3 (sa k) fr[k].stack.length fr[k].stack.length (k0+fsz (fr.take k)+2+3*fr[k].locals.length)):FMk w3 F la sa fr k0 (k+1):=by
 obtain⟨cur,h1,h2,h3⟩:=h;have hF:=ak (ak h1 (i:=k*4) (.int .i64 ((k0+fsz (fr.take k):Nat):Int))) (i:=k*4+1) (.int .i64 ((k0+fsz (fr.take k):Nat)+1:Int));obtain⟨e1,e2,e3,e4⟩:=h3 k hk;obtain⟨⟨cl,el,-⟩,⟨cs,es,-⟩⟩:=e4 n_l;have nL:F≠la k:=fun e=>by rw[<-e,h1] at el;cases el
 have nS:F≠sa k:=fun e=>by rw[<-e,h1] at es;cases es
 have hF3:=j2.kept (j1.kept hF nL) nS;have K:∀b c,wr.heap[b]?=some (.cells c 80 (0,0))->b≠la k->b≠sa k->w3.heap[b]?=some (.cells c 80 (0,0)):=fun b c hb n1 n2=>by
  have nF:b≠F:=fun e=>by rw[e,h1] at hb;cases hb
  refine j2.kept (j1.kept ?_ n1) n2;rw[Below.heap_setCell _ _ _ _ (show b≠F from nF),Below.heap_setCell _ _ _ _ (show b≠F from nF)]
  exact hb
 refine⟨_,hF3,by simpa using h2,fun j hj=>?_⟩;obtain⟨d1,d2,d3,d4⟩:=h3 j hj;have s2:((cur.setIfInBounds (k*4) (.int .i64 ((k0+fsz (fr.take k):Nat):Int))).setIfInBounds (k*4+1) (.int .i64 ((k0+fsz (fr.take k):Nat)+1:Int)))[j*4+2]?=cur[j*4+2]?:=by rw[aj _ (by omega),aj _ (by omega)]
 have s3:((cur.setIfInBounds (k*4) (.int .i64 ((k0+fsz (fr.take k):Nat):Int))).setIfInBounds (k*4+1) (.int .i64 ((k0+fsz (fr.take k):Nat)+1:Int)))[j*4+3]?=cur[j*4+3]?:=by rw[aj _ (by omega),aj _ (by omega)]
 refine⟨by rw[s2];exact d1,by rw[s3];exact d2,fun e=>?_,fun e=>?_⟩
 ·by_cases ejk:j=k
  ·subst ejk;obtain⟨c,m3,m4⟩:=m1;refine⟨?_,?_,⟨c,j2.kept m3 (hA.ls j j hj hj),m4⟩,m2⟩
   ·rw[aj _ (by omega)];exact aC _ (by omega)
   ·exact aC _ (by simp;omega)
  ·obtain⟨x1,x2,⟨c,x3,x4⟩,⟨c',x5,x6⟩⟩:=d3 (by omega);refine⟨by rw[aj _ (by omega),aj _ (by omega)];exact x1,by rw[aj _ (by omega),aj _ (by omega)];exact x2,⟨c,K _ _ x3 (fun e=>ejk (hA.li _ _ hj hk e)) (hA.ls _ _ hj hk),x4⟩,⟨c',K _ _ x5 (fun e=>hA.ls _ _ hk hj e.symm) (fun e=>ejk (hA.si _ _ hj hk e)),x6⟩⟩
 ·obtain⟨⟨c,x3,x4⟩,⟨c',x5,x6⟩⟩:=d4 (by omega);have ejk:j≠k:=by omega
  exact⟨⟨c,K _ _ x3 (fun e=>ejk (hA.li _ _ hj hk e)) (hA.ls _ _ hj hk),x4⟩,⟨c',K _ _ x5 (fun e=>hA.ls _ _ hk hj e.symm) (fun e=>ejk (hA.si _ _ hj hk e)),x6⟩⟩
theorem markFrameS_is(S:Nat->Prop)(F cap k0:Nat)(fr:List Fr)(la sa:Nat->Nat)(w:World)(hn:fr.length<=1048576)(hc:∀f∈fr,f.locals.length<=1048576/\f.stack.length<=1048576)(h1:k0<=1000000000)(hA:FAp fr.length la sa)(hS:S F)(hS2:∀i,i<fr.length->S (la i)/\S (sa i))(hF:FMk w F la sa fr k0 0) :
  Calls Tryz.prog 37 #[.slice (some ⟨F,0,none⟩) fr.length cap,.int .i64 (k0:Int)] w fun e w'=>e=.returned (.int .i64 ((k0+fsz fr:Nat):Int))/\Only S w w'/\FMk w' F la sa fr k0 fr.length:=by
 go_enter Tryz.func37,Tryz.ntmps37
 go_wp2;go_loopw [1,5] (fun q i wr=>∃(k:Nat),k<=fr.length/\i=.int .i64 k/\q=.int .i64 ((k0+fsz (fr.take k):Nat):Int)/\Hid (Only S w wr)/\Hid (FMk wr F la sa fr k0 k)) (fun _ i _=>fr.length-(intOf i).toNat)
 case atStart=>exact⟨0,by omega,rfl,by simp[fsz],Only.refl _ _,hF⟩
 case round=>
  obtain⟨k,hk,rfl,rfl,HK,HF⟩:=hrel;by_cases hlt:k<fr.length
  ·have hle:=gV hc k hk;obtain⟨m,hm⟩:∃m,m=k0+fsz (fr.take k):=⟨_,rfl⟩;have HM:=hidR hm;have hmz:m<=20000000000000:=by omega
   rw[<-hm];obtain⟨cur,hC,hcs,hcd⟩:=HF.out;have hfz:=aq hC;obtain⟨y1,hy1⟩:∃v,wr.cell? ⟨F,k*4,none⟩=some v:=⟨cur[k*4]'(by omega),by rw[ae hC];exact Array.getElem?_eq_getElem _⟩;obtain⟨y2,hy2⟩:∃v,wr.cell? ⟨F,k*4+1,none⟩=some v:=⟨cur[k*4+1]'(by omega),by rw[ae hC];exact Array.getElem?_eq_getElem _⟩;obtain⟨d1,d2,-,d4⟩:=hcd k hlt;obtain⟨db,db2⟩:=d4 n_l;obtain⟨wx,hwx⟩:∃wx,wx=(wr.setCell ⟨F,k*4,none⟩ (.int .i64 (m:Int))).setCell ⟨F,k*4+1,none⟩ (.int .i64 ((m:Int)+1)):=⟨_,rfl⟩;have HWX:=hidR hwx;have hKx:Only S wr wx:=by rw[hwx];exact ((Only.refl _ _).set hS _).set hS _
   have z2:wr.cell? ⟨F,k*4+2,none⟩=some (.slice (some ⟨la k,0,none⟩) fr[k].locals.length fr[k].locals.length):=by rw[ae hC];exact d1
   have z3:wr.cell? ⟨F,k*4+3,none⟩=some (.slice (some ⟨sa k,0,none⟩) fr[k].stack.length fr[k].stack.length):=by rw[ae hC];exact d2
   have hcl:=(hc _ (g_m hlt)).1;have hcs2:=(hc _ (g_m hlt)).2;have K:∀b n,a7 wr b n->a7 wx b n:=fun b n hb=>by
    obtain⟨c,hcb,hcz⟩:=hb;have nF:b≠F:=fun e=>by rw[e,hC] at hcb;cases hcb
    refine⟨c,?_,hcz⟩;rw[hwx,Below.heap_setCell _ _ _ _ nF,Below.heap_setCell _ _ _ _ nF];exact hcb
   have nLF:F≠la k:=fun e=>by obtain⟨c,hcb,-⟩:=db;rw[<-e,hC] at hcb;cases hcb
   have hmk:=cH (la k) fr[k].locals.length fr[k].locals.length (m+2) wx hcl (by omega) (K _ _ db);have hbx2:=hidR (K _ _ db2);have hFx:=ak (ak hC (i:=k*4) (.int .i64 (m:Int))) (i:=k*4+1) (.int .i64 ((m:Int)+1));have hFx2:=hidR (show wx.heap[F]?=some _ by rw[hwx];exact hFx)
   have e1:((m+2:Nat):Int)=(m:Int)+1+1:=by omega
   rw[e1] at hmk;have hD2:((cur.setIfInBounds (k*4) (.int .i64 (m:Int))).setIfInBounds (k*4+1) (.int .i64 ((m:Int)+1)))[k*4+3]?=some (.slice (some ⟨sa k,0,none⟩) fr[k].stack.length fr[k].stack.length):=by rw[aj _ (by omega),aj _ (by omega)];exact d2
   have HKX:=hidR hKx;have HD2:=hidR hD2;clear hC hcs hcd db db2 hKx e1 d1 d2 d4 K hFx hle hm hD2;go_wp2_with fail
   rw[<-hwx];clear hwx y1 hy1 y2 hy2 hfz z2 z3;refine hmk.mono ?_;rintro e w2 ⟨rfl,hj2,hm2⟩;have hFy:=hj2.kept hFx2.out nLF;have z3:w2.cell? ⟨F,k*4+3,none⟩=some (.slice (some ⟨sa k,0,none⟩) fr[k].stack.length fr[k].stack.length):=by rw[ae hFy];exact HD2.out
   have hb2:a7 w2 (sa k) fr[k].stack.length:=by
    obtain⟨c,hcb,hcz⟩:=hbx2.out;exact⟨c,hj2.kept hcb (fun e=>hA.ls k k hlt hlt e.symm),hcz⟩
   have hmk2:=cH (sa k) fr[k].stack.length fr[k].stack.length (m+2+3*fr[k].locals.length) w2 hcs2 (by omega) hb2;have HJ2:=hidR hj2;have HM2:=hidR hm2;clear hmk hj2 hm2 hFy hb2 hbx2 hFx2 HD2;obtain⟨A0,hA0⟩:∃A0:Nat,A0=m+2+3*fr[k].locals.length:=⟨_,rfl⟩;have HA0:=hidR hA0;rw[<-hA0] at hmk2 ⊢;have hA0z:A0<=50000000000000:=by omega
   clear hA0;go_wp2_with fail
   clear z3;refine hmk2.mono ?_;rintro e w3 ⟨rfl,hj3,hm3⟩;have hstep:FMk w3 F la sa fr k0 (k+1):=by
    have j1:=HJ2.out;have m1:=HM2.out;have m3:=hm3;rw[HWX.out,HM.out] at j1;rw[HM.out] at m1;rw[HA0.out,HM.out] at m3;exact HF.out.step hA hlt j1 m1 hj3 m3
   have HO:=hidR (((HK.out.trans HKX.out).trans (Only.just HJ2.out (hS2 k hlt).1)).trans (Only.just hj3 (hS2 k hlt).2));have HST:=hidR hstep;clear hmk2 hj3 hm3 hstep;go_wp2;go_roundw
   case rel=>exact⟨k+1,by omega,by go_num,by rw[fZ hlt];congr 1;have h1:=HM.out;have h2:=HA0.out;omega,HO,HST⟩
   case measure=>simp[intOf];omega
  ·have hkn:k=fr.length:=by omega
   subst hkn;rw[List.take_length];go_wp2;go_ret
   exact⟨rfl,HK.out,HF.out⟩
theorem dA(g n cap k0:Nat)(w:World)(hn:n<=1048576)(h0:0<k0)(h1:k0<=100000000000000)(hk:eB w g n n k0) :
  Calls Tryz.prog 86 #[.slice (some ⟨g,0,none⟩) n cap,.int .i64 (k0:Int)] w fun e w'=>e=.returned (.int .i64 ((k0+3*n:Nat):Int))/\Below w.heap.size w w':=by
 go_enter Tryz.func86,Tryz.ntmps86
 go_wp2;go_loopw [1,5] (fun q i wr=>∃(k:Nat),k<=n/\i=.int .i64 k/\q=.int .i64 ((k0+3*k:Nat):Int)/\Below w.heap.size w wr) (fun _ i _=>n-(intOf i).toNat)
 case atStart=>exact⟨0,by omega,rfl,rfl,Below.refl _ _⟩
 case round=>
  obtain⟨k,hkn,rfl,rfl,hb⟩:=hrel;by_cases hlt:k<n
  ·obtain⟨cur,hC,-,hd⟩:=hk;obtain⟨d1,d2,d3⟩:=hd k hlt;have c1:=cell_later hb (show w.cell? ⟨g,k*3,none⟩=_ by rw[ae hC];exact d1)
   have c2:=cell_later hb (show w.cell? ⟨g,k*3+1,none⟩=_ by rw[ae hC];exact d2)
   have c3:=cell_later hb (show w.cell? ⟨g,k*3+2,none⟩=_ by rw[ae hC];exact d3)
   clear hd d1 d2 d3;obtain⟨A0,hA0⟩:∃A0:Int,A0=((k0+3*k:Nat):Int):=⟨_,rfl⟩;have hA1:Hid (A0=((k0+3*k:Nat):Int)):=hA0;have hAlo:0<=A0:=by omega
   have hAhi:A0<=200000000000000:=by omega
   rw[<-hA0] at c1 ⊢;rw[show ((k0+3*k+1:Nat):Int)=A0+1 by omega] at c2
   have hmt:=fun W=>markText_is (k0+3*k+2) W (by omega) (by omega)
   rw[show ((k0+3*k+2:Nat):Int)=A0+1+1 by omega] at hmt
   have HMT:Hid (∀W,Calls Tryz.prog 85 #[.int .i64 (A0+1+1)] W fun e w'=>e=.returned (.string (gD (k0+3*k+2)))/\Below W.heap.size W w'):=hmt;obtain⟨T,hT⟩:∃T,T=gD (k0+3*k+2):=⟨_,rfl⟩;rw[<-hT] at c3 HMT;clear hA0 hmt hT;have HSv:Hid (∀w',Below wr.heap.size wr w'->w'.cell? ⟨g,k*3+2,none⟩=some (.string T)):=fun w' hb'=>cell_later hb' c3
   have q:Below wr.heap.size wr wr.drew:=b_r.drew;go_wp2
   go_region_held3 (fun w'=>w'.cell? ⟨g,k*3+2,none⟩=some (.string T))
    (first | exact c3 | exact HSv.out _ q)
    (first
     | (go_at_call 85;refine (HMT.out _).mono ?_;rintro e w5 ⟨rfl,kd⟩;have q:=q.trans (kd.mono q.size)))
   have hB:=hb.trans (q.mono hb.size);go_wp2;go_roundw
   case rel=>exact⟨k+1,by omega,by go_num,by rw[show ((k0+3*(k+1):Nat):Int)=A0+1+1+1 by have:=hA1.out;omega],hB⟩
   case measure=>simp[intOf];omega
  ·have hkn2:k=n:=by omega
   subst hkn2;go_wp2;go_ret
   exact⟨rfl,hb⟩
theorem heldFrameS_is(F cap k0:Nat)(fr:List Fr)(la sa:Nat->Nat)(w:World)(hn:fr.length<=1048576)(hc:∀f∈fr,f.locals.length<=1048576/\f.stack.length<=1048576)(h0:0<k0)(h1:k0<=1000000000)(hF:FMk w F la sa fr k0 fr.length) :
  Calls Tryz.prog 38 #[.slice (some ⟨F,0,none⟩) fr.length cap,.int .i64 (k0:Int)] w fun e w'=>e=.returned (.int .i64 ((k0+fsz fr:Nat):Int))/\Below w.heap.size w w':=by
 go_enter Tryz.func38,Tryz.ntmps38
 go_wp2;go_loopw [1,5] (fun q i wr=>∃(k:Nat),k<=fr.length/\i=.int .i64 k/\q=.int .i64 ((k0+fsz (fr.take k):Nat):Int)/\Hid (Below w.heap.size w wr)) (fun _ i _=>fr.length-(intOf i).toNat)
 case atStart=>exact⟨0,by omega,rfl,by simp[fsz],Below.refl _ _⟩
 case round=>
  obtain⟨k,hk,rfl,rfl,HB⟩:=hrel;by_cases hlt:k<fr.length
  ·have hle:=gV hc k hk;obtain⟨m,hm⟩:∃m,m=k0+fsz (fr.take k):=⟨_,rfl⟩;have HM:=hidR hm;have hmz:m<=20000000000000:=by omega
   have hm0:0<m:=by omega
   rw[<-hm];obtain⟨cur,hC,hcs,hcd⟩:=hF;obtain⟨d1,d2,d3,-⟩:=hcd k hlt;obtain⟨t1,t2,t3,t4⟩:=d3 hlt;rw[<-hm] at t1 t2 t3 t4;have hCr:=ah hC HB.out;have y1:wr.cell? ⟨F,k*4,none⟩=some (.int .i64 (m:Int)):=by rw[ae hCr];exact t1
   have y2:wr.cell? ⟨F,k*4+1,none⟩=some (.int .i64 ((m:Int)+1)):=by rw[ae hCr];exact t2
   have z2:wr.cell? ⟨F,k*4+2,none⟩=some (.slice (some ⟨la k,0,none⟩) fr[k].locals.length fr[k].locals.length):=by rw[ae hCr];exact d1
   have hcl:=(hc _ (g_m hlt)).1;have hcs2:=(hc _ (g_m hlt)).2;have hmk:=dA (la k) fr[k].locals.length fr[k].locals.length (m+2) wr hcl (by omega) (by omega) (t3.mono HB.out);have e1:((m+2:Nat):Int)=(m:Int)+1+1:=by omega
   rw[e1] at hmk;have HC:=hidR hC;have HD2:=hidR d2;have HT4:=hidR t4;clear hC hcs hcd d1 d2 d3 t1 t2 t3 t4 hCr hle hm e1;go_wp2_with fail
   clear y1 y2 z2;refine hmk.mono ?_;rintro e w2 ⟨rfl,hb2⟩;have HB2:=hidR (HB.out.trans (hb2.mono HB.out.size));have z3:w2.cell? ⟨F,k*4+3,none⟩=some (.slice (some ⟨sa k,0,none⟩) fr[k].stack.length fr[k].stack.length):=by rw[ae (ah HC.out HB2.out)];exact HD2.out
   have hmk2:=dA (sa k) fr[k].stack.length fr[k].stack.length (m+2+3*fr[k].locals.length) w2 hcs2 (by omega) (by omega) (HT4.out.mono HB2.out);clear hmk hb2;obtain⟨A0,hA0⟩:∃A0:Nat,A0=m+2+3*fr[k].locals.length:=⟨_,rfl⟩;have HA0:=hidR hA0;rw[<-hA0] at hmk2 ⊢;have hA0z:A0<=50000000000000:=by omega
   clear hA0;go_wp2_with fail
   clear z3;refine hmk2.mono ?_;rintro e w3 ⟨rfl,hb3⟩;have HB3:=hidR (HB2.out.trans (hb3.mono HB2.out.size));clear hmk2 hb3;obtain⟨A1,hA1⟩:∃A1:Nat,A1=A0+3*fr[k].stack.length:=⟨_,rfl⟩;have HA1:=hidR hA1;rw[<-hA1];have hA1z:A1<=60000000000000:=by omega
   clear hA1;go_wp2;go_roundw
   case rel=>exact⟨k+1,by omega,by go_num,by rw[fZ hlt];congr 1;have h1:=HM.out;have h2:=HA0.out;have h3:=HA1.out;omega,HB3⟩
   case measure=>simp[intOf];omega
  ·have hkn:k=fr.length:=by omega
   subst hkn;rw[List.take_length];go_wp2;go_ret
   exact⟨rfl,HB.out⟩
def rsz (rs:List (List Vl)):Nat:=(rs.map fun r=>3*r.length).sum
theorem fS{rs:List (List Vl)}{k:Nat}(h:k<rs.length):rsz (rs.take (k+1))=rsz (rs.take k)+3*rs[k].length:=by
 unfold rsz;rw[List.take_succ_eq_append_getElem h,List.map_append,List.sum_append];simp
theorem gY{rs:List (List Vl)}(hc:∀r∈rs,r.length<=1048576)(k:Nat)(hk:k<=rs.length):rsz (rs.take k)<=k*4000000:=by
 induction k with
 | zero=>simp[rsz]
 | succ n ih=>
  have:=ih (by omega);have h1:=hc rs[n] (g_m (by omega));rw[fS (by omega)];omega
structure RMk (w:World)(ha:Option Addr)(rb:Nat->Nat)(rs:List (List Vl))(k0 m:Nat):Prop where
 row:∀j (hj:j<rs.length),∃R cur,ha=some ⟨R,0,none⟩/\w.heap[R]?=some (.cells cur 125 (0,0))/\cur[j]?=some (.slice (some ⟨rb j,0,none⟩) rs[j].length rs[j].length)
 done:∀j (hj:j<rs.length),j<m->eB w (rb j) rs[j].length rs[j].length (k0+rsz (rs.take j))
 todo:∀j (hj:j<rs.length),m<=j->a7 w (rb j) rs[j].length
theorem RMk.kept{w w':World}{ha:Option Addr}{k0 m:Nat}{rb:Nat->Nat}{rs:List (List Vl)}(h:RMk w ha rb rs k0 m)(hk:∀b c t,(t=125\/(t=80/\∃i,i<rs.length/\b=rb i))->w.heap[b]?=some (.cells c t (0,0))->w'.heap[b]?=some (.cells c t (0,0))):RMk w' ha rb rs k0 m:=by
 refine⟨fun j hj=>?_,fun j hj e=>?_,fun j hj e=>?_⟩
 ·obtain⟨R,cur,e,h1,h2⟩:=h.row j hj;exact⟨R,cur,e,hk _ _ _ (.inl rfl) h1,h2⟩
 ·obtain⟨c,h1,h2⟩:=h.done j hj e;exact⟨c,hk _ _ _ (.inr ⟨rfl,j,hj,rfl⟩) h1,h2⟩
 ·obtain⟨c,h1,h2⟩:=h.todo j hj e;exact⟨c,hk _ _ _ (.inr ⟨rfl,j,hj,rfl⟩) h1,h2⟩
theorem RMk.step{wr w2:World}{ha:Option Addr}{k0 k:Nat}{rb:Nat->Nat}{rs:List (List Vl)}(h:RMk wr ha rb rs k0 k)(hA:∀i j,i<rs.length->j<rs.length->rb i=rb j->i=j)(hk:k<rs.length)
  (j1:Just (rb k) wr w2) (m1:eB w2 (rb k) rs[k].length rs[k].length (k0+rsz (rs.take k))):RMk w2 ha rb rs k0 (k+1):=by
 obtain⟨cl,el,-⟩:=h.todo k hk n_l;refine⟨fun j hj=>?_,fun j hj e=>?_,fun j hj e=>?_⟩
 ·obtain⟨R,cur,e,h1,h2⟩:=h.row j hj;exact⟨R,cur,e,j1.kept h1 (fun e=>by rw[e,el] at h1;cases h1),h2⟩
 ·by_cases ejk:j=k
  ·subst ejk;exact m1
  ·obtain⟨c,h1,h2⟩:=h.done j hj (by omega);exact⟨c,j1.kept h1 (fun e=>ejk (hA _ _ hj hk e)),h2⟩
 ·obtain⟨c,h1,h2⟩:=h.todo j hj (by omega);exact⟨c,j1.kept h1 (fun e=>by have:=hA _ _ hj hk e;omega),h2⟩
theorem markRecS_is(S:Nat->Prop)(ha:Option Addr)(cap k0:Nat)(rs:List (List Vl))(rb:Nat->Nat)(w:World)(hn:rs.length<=1048576)(hc:∀r∈rs,r.length<=1048576)(h1:k0<=10000000000000)(hA:∀i j,i<rs.length->j<rs.length->rb i=rb j->i=j)(hS:∀i,i<rs.length->S (rb i))(hR:RMk w ha rb rs k0 0) :
  Calls Tryz.prog 36 #[.slice ha rs.length cap,.int .i64 (k0:Int)] w fun e w'=>e=.returned (.int .i64 ((k0+rsz rs:Nat):Int))/\Only S w w'/\RMk w' ha rb rs k0 rs.length:=by
 go_enter Tryz.func36,Tryz.ntmps36
 go_wp2;go_loopw [1,5] (fun q i wr=>∃(k:Nat),k<=rs.length/\i=.int .i64 k/\q=.int .i64 ((k0+rsz (rs.take k):Nat):Int)/\Hid (Only S w wr)/\Hid (RMk wr ha rb rs k0 k)) (fun _ i _=>rs.length-(intOf i).toNat)
 case atStart=>exact⟨0,by omega,rfl,by simp[rsz],Only.refl _ _,hR⟩
 case round=>
  obtain⟨k,hk,rfl,rfl,HK,HF⟩:=hrel;by_cases hlt:k<rs.length
  ·have hle:=gY hc k hk;obtain⟨m,hm⟩:∃m,m=k0+rsz (rs.take k):=⟨_,rfl⟩;have HM:=hidR hm;have hmz:m<=20000000000000:=by omega
   rw[<-hm];obtain⟨R,cur,he,hC,hd⟩:=HF.out.row k hlt;subst he;have z2:wr.cell? ⟨R,k,none⟩=some (.slice (some ⟨rb k,0,none⟩) rs[k].length rs[k].length):=by rw[ae hC];exact hd
   have hcl:=hc _ (g_m hlt);have hmk:=cH (rb k) rs[k].length rs[k].length m wr hcl (by omega) (HF.out.todo k hlt n_l);clear hC hd hle hm;go_wp2_with fail
   clear z2;refine hmk.mono ?_;rintro e w2 ⟨rfl,hj2,hm2⟩;have HST:=hidR (HF.out.step hA hlt hj2 (by rw[<-HM.out];exact hm2));have HO:=hidR (HK.out.trans (Only.just hj2 (hS k hlt)));clear hmk hj2 hm2;obtain⟨A0,hA0⟩:∃A0:Nat,A0=m+3*rs[k].length:=⟨_,rfl⟩;have HA0:=hidR hA0;rw[<-hA0];have hA0z:A0<=50000000000000:=by omega
   clear hA0;go_wp2;go_roundw
   case rel=>exact⟨k+1,by omega,by go_num,by rw[fS hlt];congr 1;have h1:=HM.out;have h2:=HA0.out;omega,HO,HST⟩
   case measure=>simp[intOf];omega
  ·have hkn:k=rs.length:=by omega
   subst hkn;rw[List.take_length];go_wp2;go_ret
   exact⟨rfl,HK.out,HF.out⟩
theorem heldRecS_is(ha:Option Addr)(cap k0:Nat)(rs:List (List Vl))(rb:Nat->Nat)(w:World)(hn:rs.length<=1048576)(hc:∀r∈rs,r.length<=1048576)(h0:0<k0)(h1:k0<=10000000000000)(hR:RMk w ha rb rs k0 rs.length) :
  Calls Tryz.prog 39 #[.slice ha rs.length cap,.int .i64 (k0:Int)] w fun e w'=>e=.returned (.int .i64 ((k0+rsz rs:Nat):Int))/\Below w.heap.size w w':=by
 go_enter Tryz.func39,Tryz.ntmps39
 go_wp2;go_loopw [1,5] (fun q i wr=>∃(k:Nat),k<=rs.length/\i=.int .i64 k/\q=.int .i64 ((k0+rsz (rs.take k):Nat):Int)/\Hid (Below w.heap.size w wr)) (fun _ i _=>rs.length-(intOf i).toNat)
 case atStart=>exact⟨0,by omega,rfl,by simp[rsz],Below.refl _ _⟩
 case round=>
  obtain⟨k,hk,rfl,rfl,HB⟩:=hrel;by_cases hlt:k<rs.length
  ·have hle:=gY hc k hk;obtain⟨m,hm⟩:∃m,m=k0+rsz (rs.take k):=⟨_,rfl⟩;have HM:=hidR hm;have hmz:m<=20000000000000:=by omega
   have hm0:0<m:=by omega
   rw[<-hm];obtain⟨R,cur,he,hC,hd⟩:=hR.row k hlt;have t3:=hR.done k hlt hlt;rw[<-hm] at t3;subst he;have z2:wr.cell? ⟨R,k,none⟩=some (.slice (some ⟨rb k,0,none⟩) rs[k].length rs[k].length):=by rw[ae (ah hC HB.out)];exact hd
   have hcl:=hc _ (g_m hlt);have hmk:=dA (rb k) rs[k].length rs[k].length m wr hcl (by omega) (by omega) (t3.mono HB.out);clear hC hd hle hm t3;go_wp2_with fail
   clear z2;refine hmk.mono ?_;rintro e w2 ⟨rfl,hb2⟩;have HB2:=hidR (HB.out.trans (hb2.mono HB.out.size));clear hmk hb2;obtain⟨A0,hA0⟩:∃A0:Nat,A0=m+3*rs[k].length:=⟨_,rfl⟩;have HA0:=hidR hA0;rw[<-hA0];have hA0z:A0<=50000000000000:=by omega
   clear hA0;go_wp2;go_roundw
   case rel=>exact⟨k+1,by omega,by go_num,by rw[fS hlt];congr 1;have h1:=HM.out;have h2:=HA0.out;omega,HB2⟩
   case measure=>simp[intOf];omega
  ·have hkn:k=rs.length:=by omega
   subst hkn;rw[List.take_length];go_wp2;go_ret
   exact⟨rfl,HB.out⟩
theorem toSrc_b(x:Sr)(w:World) :
  Calls Tryz.prog 285 #[.agg #[.int .i64 x.k,.int .i64 x.n,.int .i64 x.v.k,.int .i64 x.v.n,.string x.v.s]] w fun e w'=>e=.returned (.agg #[.int .i64 x.k,.int .i64 x.n,.int .i64 x.v.k,.int .i64 x.v.n,.string x.v.s])/\Below w.heap.size w w':=by
 have hbA:Below w.heap.size w (((w.alloc (.cells #[.int .i64 x.k,.int .i64 x.n,.int .i64 x.v.k,.int .i64 x.v.n,.string x.v.s] 383)).alloc (.cells #[.int .i64 0,.int .i64 0,.int .i64 0,.int .i64 0,.string ⟨#[]⟩] 212)).alloc (.cells #[.int .i64 x.k,.int .i64 x.n,.int .i64 0,.int .i64 0,.string ⟨#[]⟩] 212)):=((b_r.alloc n_l _).alloc (by simp) _).alloc (by simp;omega) _;have hI0:=au (au (al w #[.int .i64 x.k,.int .i64 x.n,.int .i64 x.v.k,.int .i64 x.v.n,.string x.v.s] 383) (.cells #[.int .i64 0,.int .i64 0,.int .i64 0,.int .i64 0,.string ⟨#[]⟩] 212)) (.cells #[.int .i64 x.k,.int .i64 x.n,.int .i64 0,.int .i64 0,.string ⟨#[]⟩] 212);have hR0:=au (al (w.alloc (.cells #[.int .i64 x.k,.int .i64 x.n,.int .i64 x.v.k,.int .i64 x.v.n,.string x.v.s] 383)) #[.int .i64 0,.int .i64 0,.int .i64 0,.int .i64 0,.string ⟨#[]⟩] 212) (.cells #[.int .i64 x.k,.int .i64 x.n,.int .i64 0,.int .i64 0,.string ⟨#[]⟩] 212);have hO0:=al ((w.alloc (.cells #[.int .i64 x.k,.int .i64 x.n,.int .i64 x.v.k,.int .i64 x.v.n,.string x.v.s] 383)).alloc (.cells #[.int .i64 0,.int .i64 0,.int .i64 0,.int .i64 0,.string ⟨#[]⟩] 212)) #[.int .i64 x.k,.int .i64 x.n,.int .i64 0,.int .i64 0,.string ⟨#[]⟩] 212;simp only[World.size_alloc] at hR0 hO0
 go_enter Tryz.func285,Tryz.ntmps285
 go_wp2_with fail
 refine (ei _ _ _ _).mono ?_;rintro e w1 ⟨rfl,hbn⟩;have hI1:=ah hI0 hbn;have hR1:=ah hR0 hbn;have hO1:=ah hO0 hbn;have hB1:=hbA.trans (hbn.mono hbA.size);clear hI0 hR0 hO0 hbA hbn;have i1:=ae hI1;have r1:=ae hR1;have r2:=aq hR1;have o1:=ae hO1;have o2:=aq hO1;have hzy:w.heap.size+1+1<w1.heap.size:=ay hO1;go_wp2;refine bodyPost_ret (v:=.agg #[.int .i64 x.k,.int .i64 x.n,.int .i64 x.v.k,.int .i64 x.v.n,.string x.v.s]) (by simp[results,Tryz.results285,go_sem,r1]) rfl ⟨rfl,?_⟩
 ·exact ((((((((hB1.setCell (by simp;first | done | omega) _).setCell (by simp;first | done | omega) _).setCell (by simp;first | done | omega) _).setCell (by simp;first | done | omega) _).setCell (by simp;first | done | omega) _).setCell (by simp;first | done | omega) _).setCell (by simp;first | done | omega) _).setCell (by simp;first | done | omega) _)
theorem f6(a:Option Addr)(xs:List Sr)(cap:Nat)(w:World)(hx:bj bQ xs)(hm:bD w 0 a xs) :
  Calls Tryz.prog 261 #[.slice a xs.length cap] w fun e w'=>e=.returned (.slice (some ⟨w.heap.size,0,none⟩) xs.length xs.length)/\SrY w' w.heap.size (some ⟨w.heap.size,0,none⟩) xs/\Below w.heap.size w w':=by
 obtain⟨hn,hc⟩:=hx;obtain⟨i0,hi,hz0,hz1,hz2⟩:=info_parts infoTSrc;go_enter Tryz.func261,Tryz.ntmps261
 go_wp2_with (first | (at_make;refine wpList_make_full _ rfl _ _ 112 rfl w.heap.size 212 i0 (.agg #[.int .i64 0,.int .i64 0,.int .i64 0,.int .i64 0,.string ByteArray.empty]) 5 Tryz.underlying112 hi hz0 hz1 _ _ _ _ xs.length rfl rfl rfl rfl (by rw[hz2];omega) (by unfold maxLen;omega) n_l ?_;intro w1 hown hgrow))
 obtain⟨cur0,hblk,hsz⟩:=aY hown;have hb0:Below w.heap.size w w1:=b_r.grown hgrow n_l (by intro k hk;cases hk);clear hown hgrow hi hz0 hz1 hz2;go_loopw [4] (fun i wr=>∃(k:Nat) (cur:Array Value),k<=xs.length/\i=.int .i64 k/\wr.heap[w.heap.size]?=some (.cells cur 212 (0,0))/\cur.size=xs.length*5/\(∀j (hj:j<xs.length),j<k->cur[j*5]?=some (.int .i64 xs[j].k)/\cur[j*5+1]?=some (.int .i64 xs[j].n)/\cur[j*5+2]?=some (.int .i64 xs[j].v.k)/\cur[j*5+3]?=some (.int .i64 xs[j].v.n)/\cur[j*5+4]?=some (.string xs[j].v.s))/\Below w.heap.size w wr) (fun i _=>xs.length-(intOf i).toNat)
 case atStart=>exact⟨0,cur0,by omega,rfl,hblk,hsz,fun j _ h=>by omega,hb0⟩
 case round=>
  obtain⟨k,cur,hk,rfl,hblk,hsz,hdone,hb⟩:=hrel;by_cases hlt:k<xs.length
  ·obtain⟨b,off,rfl,-,d0,d1,d2,d3,d4⟩:=hm k hlt;have e0:=cell_later hb d0;have e1:=cell_later hb d1;have e2:=cell_later hb d2;have e3:=cell_later hb d3;have e4:=cell_later hb d4;clear d0 d1 d2 d3 d4;have hgs:w.heap.size<wr.heap.size:=ay hblk;go_wp2_with fail
   refine (toSrc_b xs[k] _).mono ?_;rintro e w2 ⟨rfl,hb2⟩;have hblk2:=ah hblk hb2;have hfz:=aq hblk2;have hcl0:w2.cell? ⟨w.heap.size,k*5,none⟩=some cur[k*5]:=by rw[ae hblk2];simp
   have hcl1:w2.cell? ⟨w.heap.size,k*5+1,none⟩=some cur[k*5+1]:=by rw[ae hblk2];simp
   have hcl2:w2.cell? ⟨w.heap.size,k*5+2,none⟩=some cur[k*5+2]:=by rw[ae hblk2];simp
   have hcl3:w2.cell? ⟨w.heap.size,k*5+3,none⟩=some cur[k*5+3]:=by rw[ae hblk2];simp
   have hcl4:w2.cell? ⟨w.heap.size,k*5+4,none⟩=some cur[k*5+4]:=by rw[ae hblk2];simp
   have hb3:Below w.heap.size w w2:=hb.trans (hb2.mono hb.size);go_wp2;go_roundw
   case rel=>
    have hab:aZ (w.heap.size+1) w2 (((((w2.setCell ⟨w.heap.size,k*5,none⟩ (.int .i64 xs[k].k)).setCell ⟨w.heap.size,k*5+1,none⟩ (.int .i64 xs[k].n)).setCell ⟨w.heap.size,k*5+2,none⟩ (.int .i64 xs[k].v.k)).setCell ⟨w.heap.size,k*5+3,none⟩ (.int .i64 xs[k].v.n)).setCell ⟨w.heap.size,k*5+4,none⟩ (.string xs[k].v.s)):=((((((aZ.refl _ _).setCell (by simp) _).setCell (by simp) _).setCell (by simp) _).setCell (by simp) _).setCell (by simp) _);refine⟨k+1,(((((cur.setIfInBounds (k*5) (.int .i64 xs[k].k)).setIfInBounds (k*5+1) (.int .i64 xs[k].n)).setIfInBounds (k*5+2) (.int .i64 xs[k].v.k)).setIfInBounds (k*5+3) (.int .i64 xs[k].v.n)).setIfInBounds (k*5+4) (.string xs[k].v.s)),by omega,by go_num,(ak (ak (ak (ak (ak hblk2 _) _) _) _) _),by simpa using hsz,?_,(((((hb3.setCell n_l _).setCell n_l _).setCell n_l _).setCell n_l _).setCell n_l _)⟩;intro j hj hjk;by_cases e:j=k
    ·subst e;refine⟨?_,?_,?_,?_,?_⟩
     ·rw[aj _ (by omega),aj _ (by omega),aj _ (by omega),aj _ (by omega)];exact aC _ (by first | omega | (simp;omega))
     ·rw[aj _ (by omega),aj _ (by omega),aj _ (by omega)];exact aC _ (by first | omega | (simp;omega))
     ·rw[aj _ (by omega),aj _ (by omega)];exact aC _ (by first | omega | (simp;omega))
     ·rw[aj _ (by omega)];exact aC _ (by first | omega | (simp;omega))
     ·exact aC _ (by first | omega | (simp;omega))
    ·obtain⟨d0,d1,d2,d3,d4⟩:=hdone j hj (by omega);refine⟨?_,?_,?_,?_,?_⟩
     ·rw[aj _ (by omega),aj _ (by omega),aj _ (by omega),aj _ (by omega),aj _ (by omega)];exact d0
     ·rw[aj _ (by omega),aj _ (by omega),aj _ (by omega),aj _ (by omega),aj _ (by omega)];exact d1
     ·rw[aj _ (by omega),aj _ (by omega),aj _ (by omega),aj _ (by omega),aj _ (by omega)];exact d2
     ·rw[aj _ (by omega),aj _ (by omega),aj _ (by omega),aj _ (by omega),aj _ (by omega)];exact d3
     ·rw[aj _ (by omega),aj _ (by omega),aj _ (by omega),aj _ (by omega),aj _ (by omega)];exact d4
   case measure=>simp[intOf];omega
  ·go_wp2;go_ret
   refine⟨rfl,⟨fun j hj=>?_,w.heap.size,rfl,Nat.le_refl _,cur,hblk,hsz,fun j hj=>?_⟩,hb⟩
   ·obtain⟨d0,d1,d2,d3,d4⟩:=hdone j hj (by omega);exact⟨w.heap.size,0,rfl,Nat.le_refl _,by rw[ae hblk,Nat.zero_add];exact d0,by rw[ae hblk,Nat.zero_add];exact d1,by rw[ae hblk,Nat.zero_add];exact d2,by rw[ae hblk,Nat.zero_add];exact d3,by rw[ae hblk,Nat.zero_add];exact d4⟩
   ·obtain⟨d0,d1,d2,d3,d4⟩:=hdone j hj (by omega);exact⟨by rw[d0];exact az _ _,by rw[d1];exact az _ _,by rw[d2];exact az _ _,by rw[d3];exact az _ _,by rw[d4];exact eU _⟩
theorem toExFrame_b(x:EF)(a0:Option Addr)(c0:Nat)(a1:Option Addr)(c1:Nat)(w:World)(hn0:bj bQ x.locals)(p0:bD w 0 a0 x.locals)(hn1:bj bQ x.stack)(p1:bD w 0 a1 x.stack) :
  Calls Tryz.prog 211 #[.agg #[.int .i64 x.fn,.int .i64 x.pc,.slice a0 x.locals.length c0,.slice a1 x.stack.length c1]] w fun e w'=>∃g0 g1,w.heap.size<=g0/\w.heap.size<=g1/\e=.returned (.agg #[.int .i64 x.fn,.int .i64 x.pc,.slice (some ⟨g0,0,none⟩) x.locals.length x.locals.length,.slice (some ⟨g1,0,none⟩) x.stack.length x.stack.length])/\SrY w' w.heap.size (some ⟨g0,0,none⟩) x.locals/\SrY w' w.heap.size (some ⟨g1,0,none⟩) x.stack/\Below w.heap.size w w':=by
 have hbA:Below w.heap.size w (((w.alloc (.cells #[.int .i64 x.fn,.int .i64 x.pc,.slice a0 x.locals.length c0,.slice a1 x.stack.length c1] 283)).alloc (.cells #[.int .i64 0,.int .i64 0,.slice none 0 0,.slice none 0 0] 114)).alloc (.cells #[.int .i64 x.fn,.int .i64 x.pc,.slice none 0 0,.slice none 0 0] 114)):=((b_r.alloc n_l _).alloc (by simp) _).alloc (by simp;omega) _;have hI0:=au (au (al w #[.int .i64 x.fn,.int .i64 x.pc,.slice a0 x.locals.length c0,.slice a1 x.stack.length c1] 283) (.cells #[.int .i64 0,.int .i64 0,.slice none 0 0,.slice none 0 0] 114)) (.cells #[.int .i64 x.fn,.int .i64 x.pc,.slice none 0 0,.slice none 0 0] 114);have hR0:=au (al (w.alloc (.cells #[.int .i64 x.fn,.int .i64 x.pc,.slice a0 x.locals.length c0,.slice a1 x.stack.length c1] 283)) #[.int .i64 0,.int .i64 0,.slice none 0 0,.slice none 0 0] 114) (.cells #[.int .i64 x.fn,.int .i64 x.pc,.slice none 0 0,.slice none 0 0] 114);have hO0:=al ((w.alloc (.cells #[.int .i64 x.fn,.int .i64 x.pc,.slice a0 x.locals.length c0,.slice a1 x.stack.length c1] 283)).alloc (.cells #[.int .i64 0,.int .i64 0,.slice none 0 0,.slice none 0 0] 114)) #[.int .i64 x.fn,.int .i64 x.pc,.slice none 0 0,.slice none 0 0] 114;simp only[World.size_alloc] at hR0 hO0
 go_enter Tryz.func211,Tryz.ntmps211
 go_wp2_with fail
 refine (f6 a0 x.locals c0 _ hn0 (p0.mono hbA)).mono ?_;rintro e w1 ⟨rfl,hnew,hbn⟩;have hI1:=ah hI0 hbn;have hR1:=ah hR0 hbn;have hO1:=ah hO0 hbn;have hB1:=hbA.trans (hbn.mono hbA.size);simp only[World.size_alloc] at hnew
 have q0:=hnew;clear hI0 hR0 hO0 hbA hbn hnew;obtain⟨x1,hx1⟩:∃x1,x1=(w1.setCell ⟨w.heap.size+1+1,2,none⟩ (.slice (some ⟨w.heap.size+1+1+1,0,none⟩) x.locals.length x.locals.length)):=⟨_,rfl⟩;have hOx:x1.heap[w.heap.size+1+1]?=some (.cells #[.int .i64 x.fn,.int .i64 x.pc,.slice (some ⟨w.heap.size+1+1+1,0,none⟩) x.locals.length x.locals.length,.slice none 0 0] 114 (0,0)):=by rw[hx1];simpa using (ak (i:=2) hO1 (.slice (some ⟨w.heap.size+1+1+1,0,none⟩) x.locals.length x.locals.length))
 have hRx:x1.heap[w.heap.size+1]?=some (.cells #[.int .i64 0,.int .i64 0,.slice none 0 0,.slice none 0 0] 114 (0,0)):=by rw[hx1,Below.heap_setCell _ _ _ _ (by simp)];exact hR1
 have hIx:x1.heap[w.heap.size]?=some (.cells #[.int .i64 x.fn,.int .i64 x.pc,.slice a0 x.locals.length c0,.slice a1 x.stack.length c1] 283 (0,0)):=by rw[hx1,Below.heap_setCell _ _ _ _ (by simp;omega)];exact hI1
 have hBx:Below w.heap.size w x1:=by rw[hx1];exact (hB1.setCell (by simp;omega) _)
 have hzx:w.heap.size+1+1+1<=x1.heap.size:=ay hOx;have q0x:=q0.above (w':=x1) (by rw[hx1];exact ((aZ.refl _ _).setCell (by simp) _));have i1:=ae hI1;have o1:=ae hO1;have o2:=aq hO1;go_wp2_with fail
 rw[<-hx1];clear hx1 i1 o1 o2 hI1 hR1 hO1 hB1 q0;refine (f6 a1 x.stack c1 _ hn1 (p1.mono hBx)).mono ?_;rintro e w2 ⟨rfl,hnew,hbn⟩;have hI2:=ah hIx hbn;have hR2:=ah hRx hbn;have hO2:=ah hOx hbn;have hB2:=hBx.trans (hbn.mono hBx.size);have q0:=q0x.mono hbn;have q1:=hnew.low hzx;clear hIx hRx hOx hBx hbn q0x hnew;have i1:=ae hI2;have r1:=ae hR2;have r2:=aq hR2;have o1:=ae hO2;have o2:=aq hO2;have hzy:w.heap.size+1+1<w2.heap.size:=ay hO2;go_wp2;refine bodyPost_ret (v:=.agg #[.int .i64 x.fn,.int .i64 x.pc,.slice (some ⟨w.heap.size+1+1+1,0,none⟩) x.locals.length x.locals.length,.slice (some ⟨x1.heap.size,0,none⟩) x.stack.length x.stack.length]) (by simp[results,Tryz.results211,go_sem,r1]) rfl ⟨_,_,by omega,by omega,rfl,?_,?_,?_⟩
 ·exact (q0.above ((((((aZ.refl _ _).setCell (by simp) _).setCell (by simp) _).setCell (by simp) _).setCell (by simp) _).setCell (by simp) _)).low (by omega)
 ·exact (q1.above ((((((aZ.refl _ _).setCell (by simp) _).setCell (by simp) _).setCell (by simp) _).setCell (by simp) _).setCell (by simp) _)).low (by omega)
 ·exact (((((hB2.setCell (by simp;first | done | omega) _).setCell (by simp;first | done | omega) _).setCell (by simp;first | done | omega) _).setCell (by simp;first | done | omega) _).setCell (by simp;first | done | omega) _)
theorem toExFrameS_b(a:Option Addr)(xs:List EF)(cap:Nat)(w:World)(hx:bj cK xs)(hm:cg w 0 a xs) :
  Calls Tryz.prog 155 #[.slice a xs.length cap] w fun e w'=>e=.returned (.slice (some ⟨w.heap.size,0,none⟩) xs.length xs.length)/\EFY w' w.heap.size (some ⟨w.heap.size,0,none⟩) xs/\Below w.heap.size w w':=by
 obtain⟨hn,hc⟩:=hx;obtain⟨i0,hi,hz0,hz1,hz2⟩:=info_parts infoTExFrame;go_enter Tryz.func155,Tryz.ntmps155
 go_wp2_with (first | (at_make;refine wpList_make_full _ rfl _ _ 98 rfl w.heap.size 114 i0 (.agg #[.int .i64 0,.int .i64 0,.slice none 0 0,.slice none 0 0]) 4 Tryz.underlying98 hi hz0 hz1 _ _ _ _ xs.length rfl rfl rfl rfl (by rw[hz2];omega) (by unfold maxLen;omega) n_l ?_;intro w1 hown hgrow))
 obtain⟨cur0,hblk,hsz⟩:=aY hown;have hb0:Below w.heap.size w w1:=b_r.grown hgrow n_l (by intro k hk;cases hk);clear hown hgrow hi hz0 hz1 hz2;go_loopw [4] (fun i wr=>∃(k:Nat) (cur:Array Value),k<=xs.length/\i=.int .i64 k/\wr.heap[w.heap.size]?=some (.cells cur 114 (0,0))/\cur.size=xs.length*4/\(∀j (hj:j<xs.length),j<k->∃g0 g1,cur[j*4]?=some (.int .i64 xs[j].fn)/\cur[j*4+1]?=some (.int .i64 xs[j].pc)/\cur[j*4+2]?=some (.slice (some ⟨g0,0,none⟩) xs[j].locals.length xs[j].locals.length)/\cur[j*4+3]?=some (.slice (some ⟨g1,0,none⟩) xs[j].stack.length xs[j].stack.length)/\SrY wr (w.heap.size+1) (some ⟨g0,0,none⟩) xs[j].locals/\SrY wr (w.heap.size+1) (some ⟨g1,0,none⟩) xs[j].stack)/\Below w.heap.size w wr) (fun i _=>xs.length-(intOf i).toNat)
 case atStart=>exact⟨0,cur0,by omega,rfl,hblk,hsz,fun j _ h=>by omega,hb0⟩
 case round=>
  obtain⟨k,cur,hk,rfl,hblk,hsz,hdone,hb⟩:=hrel;by_cases hlt:k<xs.length
  ·obtain⟨b,off,a0,c0,a1,c1,rfl,-,d0,d1,d2,d3,p0,p1⟩:=hm k hlt;have e0:=cell_later hb d0;have e1:=cell_later hb d1;have e2:=cell_later hb d2;have e3:=cell_later hb d3;clear d0 d1 d2 d3;have hgs:w.heap.size<wr.heap.size:=ay hblk;have hc0:=(hc xs[k] (g_m hlt)).1;have hc1:=(hc xs[k] (g_m hlt)).2;go_wp2_with fail
   refine (toExFrame_b xs[k] _ _ _ _ _ hc0 (p0.mono hb) hc1 (p1.mono hb)).mono ?_;rintro e w2 ⟨g0,g1,hg0,hg1,rfl,s0,s1,hb2⟩;have hblk2:=ah hblk hb2;have hfz:=aq hblk2;have hcl0:w2.cell? ⟨w.heap.size,k*4,none⟩=some cur[k*4]:=by rw[ae hblk2];simp
   have hcl1:w2.cell? ⟨w.heap.size,k*4+1,none⟩=some cur[k*4+1]:=by rw[ae hblk2];simp
   have hcl2:w2.cell? ⟨w.heap.size,k*4+2,none⟩=some cur[k*4+2]:=by rw[ae hblk2];simp
   have hcl3:w2.cell? ⟨w.heap.size,k*4+3,none⟩=some cur[k*4+3]:=by rw[ae hblk2];simp
   have hb3:Below w.heap.size w w2:=hb.trans (hb2.mono hb.size);go_wp2;go_roundw
   case rel=>
    have hab:aZ (w.heap.size+1) w2 ((((w2.setCell ⟨w.heap.size,k*4,none⟩ (.int .i64 xs[k].fn)).setCell ⟨w.heap.size,k*4+1,none⟩ (.int .i64 xs[k].pc)).setCell ⟨w.heap.size,k*4+2,none⟩ (.slice (some ⟨g0,0,none⟩) xs[k].locals.length xs[k].locals.length)).setCell ⟨w.heap.size,k*4+3,none⟩ (.slice (some ⟨g1,0,none⟩) xs[k].stack.length xs[k].stack.length)):=(((((aZ.refl _ _).setCell (by simp) _).setCell (by simp) _).setCell (by simp) _).setCell (by simp) _);refine⟨k+1,((((cur.setIfInBounds (k*4) (.int .i64 xs[k].fn)).setIfInBounds (k*4+1) (.int .i64 xs[k].pc)).setIfInBounds (k*4+2) (.slice (some ⟨g0,0,none⟩) xs[k].locals.length xs[k].locals.length)).setIfInBounds (k*4+3) (.slice (some ⟨g1,0,none⟩) xs[k].stack.length xs[k].stack.length)),by omega,by go_num,(ak (ak (ak (ak hblk2 _) _) _) _),by simpa using hsz,?_,((((hb3.setCell n_l _).setCell n_l _).setCell n_l _).setCell n_l _)⟩;intro j hj hjk;by_cases e:j=k
    ·subst e;refine⟨g0,g1,?_,?_,?_,?_,(s0.low (by omega)).above hab,(s1.low (by omega)).above hab⟩
     ·rw[aj _ (by omega),aj _ (by omega),aj _ (by omega)];exact aC _ (by first | omega | (simp;omega))
     ·rw[aj _ (by omega),aj _ (by omega)];exact aC _ (by first | omega | (simp;omega))
     ·rw[aj _ (by omega)];exact aC _ (by first | omega | (simp;omega))
     ·exact aC _ (by first | omega | (simp;omega))
    ·obtain⟨g0',g1',d0,d1,d2,d3,s0',s1'⟩:=hdone j hj (by omega);refine⟨g0',g1',?_,?_,?_,?_,(s0'.mono hb2).above hab,(s1'.mono hb2).above hab⟩
     ·rw[aj _ (by omega),aj _ (by omega),aj _ (by omega),aj _ (by omega)];exact d0
     ·rw[aj _ (by omega),aj _ (by omega),aj _ (by omega),aj _ (by omega)];exact d1
     ·rw[aj _ (by omega),aj _ (by omega),aj _ (by omega),aj _ (by omega)];exact d2
     ·rw[aj _ (by omega),aj _ (by omega),aj _ (by omega),aj _ (by omega)];exact d3
   case measure=>simp[intOf];omega
  ·go_wp2;go_ret
   refine⟨rfl,⟨fun j hj=>?_,w.heap.size,rfl,Nat.le_refl _,cur,hblk,hsz,fun j hj=>?_⟩,hb⟩
   ·obtain⟨g0',g1',d0,d1,d2,d3,s0',s1'⟩:=hdone j hj (by omega);exact⟨w.heap.size,0,some ⟨g0',0,none⟩,xs[j].locals.length,some ⟨g1',0,none⟩,xs[j].stack.length,rfl,Nat.le_refl _,by rw[ae hblk,Nat.zero_add];exact d0,by rw[ae hblk,Nat.zero_add];exact d1,by rw[ae hblk,Nat.zero_add];exact d2,by rw[ae hblk,Nat.zero_add];exact d3,s0'.at_.low (by omega),s1'.at_.low (by omega)⟩
   ·obtain⟨g0',g1',d0,d1,d2,d3,s0',s1'⟩:=hdone j hj (by omega);exact⟨by rw[d0];exact az _ _,by rw[d1];exact az _ _,g0',g1',d2,d3,s0'.of.low (by omega),s1'.of.low (by omega)⟩
theorem toExRec_b(x:ER)(a0:Option Addr)(c0:Nat)(w:World)(hn0:bj bQ x.fields)(p0:bD w 0 a0 x.fields) :
  Calls Tryz.prog 212 #[.agg #[.slice a0 x.fields.length c0]] w fun e w'=>∃g0,w.heap.size<=g0/\e=.returned (.agg #[.slice (some ⟨g0,0,none⟩) x.fields.length x.fields.length])/\SrY w' w.heap.size (some ⟨g0,0,none⟩) x.fields/\Below w.heap.size w w':=by
 have hbA:Below w.heap.size w (((w.alloc (.cells #[.slice a0 x.fields.length c0] 286)).alloc (.cells #[.slice none 0 0] 200)).alloc (.cells #[.slice none 0 0] 200)):=((b_r.alloc n_l _).alloc (by simp) _).alloc (by simp;omega) _;have hI0:=au (au (al w #[.slice a0 x.fields.length c0] 286) (.cells #[.slice none 0 0] 200)) (.cells #[.slice none 0 0] 200);have hR0:=au (al (w.alloc (.cells #[.slice a0 x.fields.length c0] 286)) #[.slice none 0 0] 200) (.cells #[.slice none 0 0] 200);have hO0:=al ((w.alloc (.cells #[.slice a0 x.fields.length c0] 286)).alloc (.cells #[.slice none 0 0] 200)) #[.slice none 0 0] 200;simp only[World.size_alloc] at hR0 hO0
 go_enter Tryz.func212,Tryz.ntmps212
 go_wp2_with fail
 refine (f6 a0 x.fields c0 _ hn0 (p0.mono hbA)).mono ?_;rintro e w1 ⟨rfl,hnew,hbn⟩;have hI1:=ah hI0 hbn;have hR1:=ah hR0 hbn;have hO1:=ah hO0 hbn;have hB1:=hbA.trans (hbn.mono hbA.size);simp only[World.size_alloc] at hnew
 have q0:=hnew;clear hI0 hR0 hO0 hbA hbn hnew;have i1:=ae hI1;have r1:=ae hR1;have r2:=aq hR1;have o1:=ae hO1;have o2:=aq hO1;have hzy:w.heap.size+1+1<w1.heap.size:=ay hO1;go_wp2;refine bodyPost_ret (v:=.agg #[.slice (some ⟨w.heap.size+1+1+1,0,none⟩) x.fields.length x.fields.length]) (by simp[results,Tryz.results212,go_sem,r1]) rfl ⟨_,by omega,rfl,?_,?_⟩
 ·exact (q0.above (((aZ.refl _ _).setCell (by simp) _).setCell (by simp) _)).low (by omega)
 ·exact ((hB1.setCell (by simp;first | done | omega) _).setCell (by simp;first | done | omega) _)
theorem toExRecS_b(a:Option Addr)(xs:List ER)(cap:Nat)(w:World)(hx:bj cU xs)(hm:cj w 0 a xs) :
  Calls Tryz.prog 156 #[.slice a xs.length cap] w fun e w'=>e=.returned (.slice (some ⟨w.heap.size,0,none⟩) xs.length xs.length)/\ERY w' w.heap.size (some ⟨w.heap.size,0,none⟩) xs/\Below w.heap.size w w':=by
 obtain⟨hn,hc⟩:=hx;obtain⟨i0,hi,hz0,hz1,hz2⟩:=info_parts infoTExRec;go_enter Tryz.func156,Tryz.ntmps156
 go_wp2_with (first | (at_make;refine wpList_make_full _ rfl _ _ 99 rfl w.heap.size 200 i0 (.agg #[.slice none 0 0]) 1 Tryz.underlying99 hi hz0 hz1 _ _ _ _ xs.length rfl rfl rfl rfl (by rw[hz2];omega) (by unfold maxLen;omega) n_l ?_;intro w1 hown hgrow))
 obtain⟨cur0,hblk,hsz⟩:=aY hown;have hb0:Below w.heap.size w w1:=b_r.grown hgrow n_l (by intro k hk;cases hk);clear hown hgrow hi hz0 hz1 hz2;go_loopw [4] (fun i wr=>∃(k:Nat) (cur:Array Value),k<=xs.length/\i=.int .i64 k/\wr.heap[w.heap.size]?=some (.cells cur 200 (0,0))/\cur.size=xs.length*1/\(∀j (hj:j<xs.length),j<k->∃g0,cur[j]?=some (.slice (some ⟨g0,0,none⟩) xs[j].fields.length xs[j].fields.length)/\SrY wr (w.heap.size+1) (some ⟨g0,0,none⟩) xs[j].fields)/\Below w.heap.size w wr) (fun i _=>xs.length-(intOf i).toNat)
 case atStart=>exact⟨0,cur0,by omega,rfl,hblk,hsz,fun j _ h=>by omega,hb0⟩
 case round=>
  obtain⟨k,cur,hk,rfl,hblk,hsz,hdone,hb⟩:=hrel;by_cases hlt:k<xs.length
  ·obtain⟨b,off,a0,c0,rfl,-,d0,p0⟩:=hm k hlt;have e0:=cell_later hb d0;clear d0;have hgs:w.heap.size<wr.heap.size:=ay hblk;have hc0:=(hc xs[k] (g_m hlt));go_wp2_with fail
   refine (toExRec_b xs[k] _ _ _ hc0 (p0.mono hb)).mono ?_;rintro e w2 ⟨g0,hg0,rfl,s0,hb2⟩;have hblk2:=ah hblk hb2;have hfz:=aq hblk2;have hcl0:w2.cell? ⟨w.heap.size,k,none⟩=some cur[k]:=by rw[ae hblk2];simp
   have hb3:Below w.heap.size w w2:=hb.trans (hb2.mono hb.size);go_wp2;go_roundw
   case rel=>
    have hab:aZ (w.heap.size+1) w2 (w2.setCell ⟨w.heap.size,k,none⟩ (.slice (some ⟨g0,0,none⟩) xs[k].fields.length xs[k].fields.length)):=((aZ.refl _ _).setCell (by simp) _);refine⟨k+1,(cur.setIfInBounds (k) (.slice (some ⟨g0,0,none⟩) xs[k].fields.length xs[k].fields.length)),by omega,by go_num,(ak hblk2 _),by simpa using hsz,?_,(hb3.setCell n_l _)⟩;intro j hj hjk;by_cases e:j=k
    ·subst e;refine⟨g0,?_,(s0.low (by omega)).above hab⟩
     ·exact aC _ (by first | omega | (simp;omega))
    ·obtain⟨g0',d0,s0'⟩:=hdone j hj (by omega);refine⟨g0',?_,(s0'.mono hb2).above hab⟩
     ·rw[aj _ (by omega)];exact d0
   case measure=>simp[intOf];omega
  ·go_wp2;go_ret
   refine⟨rfl,⟨fun j hj=>?_,w.heap.size,rfl,Nat.le_refl _,cur,hblk,hsz,fun j hj=>?_⟩,hb⟩
   ·obtain⟨g0',d0,s0'⟩:=hdone j hj (by omega);exact⟨w.heap.size,0,some ⟨g0',0,none⟩,xs[j].fields.length,rfl,Nat.le_refl _,by rw[ae hblk,Nat.zero_add];exact d0,s0'.at_.low (by omega)⟩
   ·obtain⟨g0',d0,s0'⟩:=hdone j hj (by omega);exact⟨g0',d0,s0'.of.low (by omega)⟩
theorem toExit_b(x:Ex)(a0:Option Addr)(c0:Nat)(a1:Option Addr)(c1:Nat)(w:World)(hn0:bj cK x.frames)(p0:cg w 0 a0 x.frames)(hn1:bj cU x.recs)(p1:cj w 0 a1 x.recs) :
  Calls Tryz.prog 100 #[.agg #[.int .i64 x.kind,.int .i64 x.spec.f,.int .i64 x.spec.pc,.int .i64 x.spec.seen,.int .i64 x.spec.target,.slice a0 x.frames.length c0,.slice a1 x.recs.length c1]] w fun e w'=>∃g0 g1,w.heap.size<=g0/\w.heap.size<=g1/\e=.returned (.agg #[.int .i64 x.kind,.int .i64 x.spec.f,.int .i64 x.spec.pc,.int .i64 x.spec.seen,.int .i64 x.spec.target,.slice (some ⟨g0,0,none⟩) x.frames.length x.frames.length,.slice (some ⟨g1,0,none⟩) x.recs.length x.recs.length])/\EFY w' w.heap.size (some ⟨g0,0,none⟩) x.frames/\ERY w' w.heap.size (some ⟨g1,0,none⟩) x.recs/\Below w.heap.size w w':=by
 have hbA:Below w.heap.size w (((w.alloc (.cells #[.int .i64 x.kind,.int .i64 x.spec.f,.int .i64 x.spec.pc,.int .i64 x.spec.seen,.int .i64 x.spec.target,.slice a0 x.frames.length c0,.slice a1 x.recs.length c1] 156)).alloc (.cells #[.int .i64 0,.int .i64 0,.int .i64 0,.int .i64 0,.int .i64 0,.slice none 0 0,.slice none 0 0] 101)).alloc (.cells #[.int .i64 x.kind,.int .i64 0,.int .i64 0,.int .i64 0,.int .i64 0,.slice none 0 0,.slice none 0 0] 101)):=((b_r.alloc n_l _).alloc (by simp) _).alloc (by simp;omega) _;have hI0:=au (au (al w #[.int .i64 x.kind,.int .i64 x.spec.f,.int .i64 x.spec.pc,.int .i64 x.spec.seen,.int .i64 x.spec.target,.slice a0 x.frames.length c0,.slice a1 x.recs.length c1] 156) (.cells #[.int .i64 0,.int .i64 0,.int .i64 0,.int .i64 0,.int .i64 0,.slice none 0 0,.slice none 0 0] 101)) (.cells #[.int .i64 x.kind,.int .i64 0,.int .i64 0,.int .i64 0,.int .i64 0,.slice none 0 0,.slice none 0 0] 101);have hR0:=au (al (w.alloc (.cells #[.int .i64 x.kind,.int .i64 x.spec.f,.int .i64 x.spec.pc,.int .i64 x.spec.seen,.int .i64 x.spec.target,.slice a0 x.frames.length c0,.slice a1 x.recs.length c1] 156)) #[.int .i64 0,.int .i64 0,.int .i64 0,.int .i64 0,.int .i64 0,.slice none 0 0,.slice none 0 0] 101) (.cells #[.int .i64 x.kind,.int .i64 0,.int .i64 0,.int .i64 0,.int .i64 0,.slice none 0 0,.slice none 0 0] 101);have hO0:=al ((w.alloc (.cells #[.int .i64 x.kind,.int .i64 x.spec.f,.int .i64 x.spec.pc,.int .i64 x.spec.seen,.int .i64 x.spec.target,.slice a0 x.frames.length c0,.slice a1 x.recs.length c1] 156)).alloc (.cells #[.int .i64 0,.int .i64 0,.int .i64 0,.int .i64 0,.int .i64 0,.slice none 0 0,.slice none 0 0] 101)) #[.int .i64 x.kind,.int .i64 0,.int .i64 0,.int .i64 0,.int .i64 0,.slice none 0 0,.slice none 0 0] 101
 simp only[World.size_alloc] at hR0 hO0
 go_enter Tryz.func100,Tryz.ntmps100
 go_wp2_with fail
 refine (toSpec_any _ _ _ _ _).mono ?_;rintro e w1 ⟨rfl,hbn⟩;have hI1:=ah hI0 hbn;have hR1:=ah hR0 hbn;have hO1:=ah hO0 hbn;have hB1:=hbA.trans (hbn.mono hbA.size);clear hI0 hR0 hO0 hbA hbn;obtain⟨x1,hx1⟩:∃x1,x1=((((w1.setCell ⟨w.heap.size+1+1,1,none⟩ (.int .i64 x.spec.f)).setCell ⟨w.heap.size+1+1,2,none⟩ (.int .i64 x.spec.pc)).setCell ⟨w.heap.size+1+1,3,none⟩ (.int .i64 x.spec.seen)).setCell ⟨w.heap.size+1+1,4,none⟩ (.int .i64 x.spec.target)):=⟨_,rfl⟩;have hOx:x1.heap[w.heap.size+1+1]?=some (.cells #[.int .i64 x.kind,.int .i64 x.spec.f,.int .i64 x.spec.pc,.int .i64 x.spec.seen,.int .i64 x.spec.target,.slice none 0 0,.slice none 0 0] 101 (0,0)):=by rw[hx1];simpa using (ak (i:=4) (ak (i:=3) (ak (i:=2) (ak (i:=1) hO1 (.int .i64 x.spec.f)) (.int .i64 x.spec.pc)) (.int .i64 x.spec.seen)) (.int .i64 x.spec.target))
 have hRx:x1.heap[w.heap.size+1]?=some (.cells #[.int .i64 0,.int .i64 0,.int .i64 0,.int .i64 0,.int .i64 0,.slice none 0 0,.slice none 0 0] 101 (0,0)):=by rw[hx1,Below.heap_setCell _ _ _ _ (by simp),Below.heap_setCell _ _ _ _ (by simp),Below.heap_setCell _ _ _ _ (by simp),Below.heap_setCell _ _ _ _ (by simp)];exact hR1
 have hIx:x1.heap[w.heap.size]?=some (.cells #[.int .i64 x.kind,.int .i64 x.spec.f,.int .i64 x.spec.pc,.int .i64 x.spec.seen,.int .i64 x.spec.target,.slice a0 x.frames.length c0,.slice a1 x.recs.length c1] 156 (0,0)):=by rw[hx1,Below.heap_setCell _ _ _ _ (by simp;omega),Below.heap_setCell _ _ _ _ (by simp;omega),Below.heap_setCell _ _ _ _ (by simp;omega),Below.heap_setCell _ _ _ _ (by simp;omega)];exact hI1
 have hBx:Below w.heap.size w x1:=by rw[hx1];exact ((((hB1.setCell (by simp;omega) _).setCell (by simp;omega) _).setCell (by simp;omega) _).setCell (by simp;omega) _)
 have hzx:w.heap.size+1+1+1<=x1.heap.size:=ay hOx;have i1:=ae hI1;have o1:=ae hO1;have o2:=aq hO1;go_wp2_with fail
 rw[<-hx1];clear hx1 i1 o1 o2 hI1 hR1 hO1 hB1;refine (toExFrameS_b a0 x.frames c0 _ hn0 (p0.mono hBx)).mono ?_;rintro e w2 ⟨rfl,hnew,hbn⟩;have hI2:=ah hIx hbn;have hR2:=ah hRx hbn;have hO2:=ah hOx hbn;have hB2:=hBx.trans (hbn.mono hBx.size);have q0:=hnew.low hzx;clear hIx hRx hOx hBx hbn hnew;obtain⟨x2,hx2⟩:∃x2,x2=(w2.setCell ⟨w.heap.size+1+1,5,none⟩ (.slice (some ⟨x1.heap.size,0,none⟩) x.frames.length x.frames.length)):=⟨_,rfl⟩;have hOx:x2.heap[w.heap.size+1+1]?=some (.cells #[.int .i64 x.kind,.int .i64 x.spec.f,.int .i64 x.spec.pc,.int .i64 x.spec.seen,.int .i64 x.spec.target,.slice (some ⟨x1.heap.size,0,none⟩) x.frames.length x.frames.length,.slice none 0 0] 101 (0,0)):=by rw[hx2];simpa using (ak (i:=5) hO2 (.slice (some ⟨x1.heap.size,0,none⟩) x.frames.length x.frames.length))
 have hRx:x2.heap[w.heap.size+1]?=some (.cells #[.int .i64 0,.int .i64 0,.int .i64 0,.int .i64 0,.int .i64 0,.slice none 0 0,.slice none 0 0] 101 (0,0)):=by rw[hx2,Below.heap_setCell _ _ _ _ (by simp)];exact hR2
 have hIx:x2.heap[w.heap.size]?=some (.cells #[.int .i64 x.kind,.int .i64 x.spec.f,.int .i64 x.spec.pc,.int .i64 x.spec.seen,.int .i64 x.spec.target,.slice a0 x.frames.length c0,.slice a1 x.recs.length c1] 156 (0,0)):=by rw[hx2,Below.heap_setCell _ _ _ _ (by simp;omega)];exact hI2
 have hBx:Below w.heap.size w x2:=by rw[hx2];exact (hB2.setCell (by simp;omega) _)
 have hzx:w.heap.size+1+1+1<=x2.heap.size:=ay hOx;have q0x:=q0.above (w':=x2) (by rw[hx2];exact ((aZ.refl _ _).setCell (by simp) _));have i1:=ae hI2;have o1:=ae hO2;have o2:=aq hO2;go_wp2_with fail
 rw[<-hx2];clear hx2 i1 o1 o2 hI2 hR2 hO2 hB2 q0;refine (toExRecS_b a1 x.recs c1 _ hn1 (p1.mono hBx)).mono ?_;rintro e w3 ⟨rfl,hnew,hbn⟩;have hI3:=ah hIx hbn;have hR3:=ah hRx hbn;have hO3:=ah hOx hbn;have hB3:=hBx.trans (hbn.mono hBx.size);have q0:=q0x.mono hbn;have q1:=hnew.low hzx;clear hIx hRx hOx hBx hbn q0x hnew;have i1:=ae hI3;have r1:=ae hR3;have r2:=aq hR3;have o1:=ae hO3;have o2:=aq hO3;have hzy:w.heap.size+1+1<w3.heap.size:=ay hO3;go_wp2;refine bodyPost_ret (v:=.agg #[.int .i64 x.kind,.int .i64 x.spec.f,.int .i64 x.spec.pc,.int .i64 x.spec.seen,.int .i64 x.spec.target,.slice (some ⟨x1.heap.size,0,none⟩) x.frames.length x.frames.length,.slice (some ⟨x2.heap.size,0,none⟩) x.recs.length x.recs.length]) (by simp[results,Tryz.results100,go_sem,r1]) rfl ⟨_,_,by omega,by omega,rfl,?_,?_,?_⟩
 ·exact (q0.above (((((((((aZ.refl _ _).setCell (by simp) _).setCell (by simp) _).setCell (by simp) _).setCell (by simp) _).setCell (by simp) _).setCell (by simp) _).setCell (by simp) _).setCell (by simp) _)).low (by omega)
 ·exact (q1.above (((((((((aZ.refl _ _).setCell (by simp) _).setCell (by simp) _).setCell (by simp) _).setCell (by simp) _).setCell (by simp) _).setCell (by simp) _).setCell (by simp) _).setCell (by simp) _)).low (by omega)
 ·exact ((((((((hB3.setCell (by simp;first | done | omega) _).setCell (by simp;first | done | omega) _).setCell (by simp;first | done | omega) _).setCell (by simp;first | done | omega) _).setCell (by simp;first | done | omega) _).setCell (by simp;first | done | omega) _).setCell (by simp;first | done | omega) _).setCell (by simp;first | done | omega) _)
theorem toExitS_b(a:Option Addr)(xs:List Ex)(cap:Nat)(w:World)(hx:bj cC xs)(hm:cZ w 0 a xs) :
  Calls Tryz.prog 54 #[.slice a xs.length cap] w fun e w'=>e=.returned (.slice (some ⟨w.heap.size,0,none⟩) xs.length xs.length)/\ExY w' w.heap.size (some ⟨w.heap.size,0,none⟩) xs/\Below w.heap.size w w':=by
 obtain⟨hn,hc⟩:=hx;obtain⟨i0,hi,hz0,hz1,hz2⟩:=info_parts infoTExit;go_enter Tryz.func54,Tryz.ntmps54
 go_wp2_with (first | (at_make;refine wpList_make_full _ rfl _ _ 39 rfl w.heap.size 101 i0 (.agg #[.int .i64 0,.int .i64 0,.int .i64 0,.int .i64 0,.int .i64 0,.slice none 0 0,.slice none 0 0]) 7 Tryz.underlying39 hi hz0 hz1 _ _ _ _ xs.length rfl rfl rfl rfl (by rw[hz2];omega) (by unfold maxLen;omega) n_l ?_;intro w1 hown hgrow))
 obtain⟨cur0,hblk,hsz⟩:=aY hown;have hb0:Below w.heap.size w w1:=b_r.grown hgrow n_l (by intro k hk;cases hk);clear hown hgrow hi hz0 hz1 hz2;go_loopw [4] (fun i wr=>∃(k:Nat) (cur:Array Value),k<=xs.length/\i=.int .i64 k/\wr.heap[w.heap.size]?=some (.cells cur 101 (0,0))/\cur.size=xs.length*7/\(∀j (hj:j<xs.length),j<k->∃g0 g1,cur[j*7]?=some (.int .i64 xs[j].kind)/\cur[j*7+1]?=some (.int .i64 xs[j].spec.f)/\cur[j*7+2]?=some (.int .i64 xs[j].spec.pc)/\cur[j*7+3]?=some (.int .i64 xs[j].spec.seen)/\cur[j*7+4]?=some (.int .i64 xs[j].spec.target)/\cur[j*7+5]?=some (.slice (some ⟨g0,0,none⟩) xs[j].frames.length xs[j].frames.length)/\cur[j*7+6]?=some (.slice (some ⟨g1,0,none⟩) xs[j].recs.length xs[j].recs.length)/\EFY wr (w.heap.size+1) (some ⟨g0,0,none⟩) xs[j].frames/\ERY wr (w.heap.size+1) (some ⟨g1,0,none⟩) xs[j].recs)/\Below w.heap.size w wr) (fun i _=>xs.length-(intOf i).toNat)
 case atStart=>exact⟨0,cur0,by omega,rfl,hblk,hsz,fun j _ h=>by omega,hb0⟩
 case round=>
  obtain⟨k,cur,hk,rfl,hblk,hsz,hdone,hb⟩:=hrel;by_cases hlt:k<xs.length
  ·obtain⟨b,off,a0,c0,a1,c1,rfl,-,d0,d1,d2,d3,d4,d5,d6,p0,p1⟩:=hm k hlt;have e0:=cell_later hb d0;have e1:=cell_later hb d1;have e2:=cell_later hb d2;have e3:=cell_later hb d3;have e4:=cell_later hb d4;have e5:=cell_later hb d5;have e6:=cell_later hb d6;clear d0 d1 d2 d3 d4 d5 d6;have hgs:w.heap.size<wr.heap.size:=ay hblk;have hc0:=(hc xs[k] (g_m hlt)).1;have hc1:=(hc xs[k] (g_m hlt)).2;go_wp2_with fail
   refine (toExit_b xs[k] _ _ _ _ _ hc0 (p0.mono hb) hc1 (p1.mono hb)).mono ?_;rintro e w2 ⟨g0,g1,hg0,hg1,rfl,s0,s1,hb2⟩;have hblk2:=ah hblk hb2;have hfz:=aq hblk2;have hcl0:w2.cell? ⟨w.heap.size,k*7,none⟩=some cur[k*7]:=by rw[ae hblk2];simp
   have hcl1:w2.cell? ⟨w.heap.size,k*7+1,none⟩=some cur[k*7+1]:=by rw[ae hblk2];simp
   have hcl2:w2.cell? ⟨w.heap.size,k*7+2,none⟩=some cur[k*7+2]:=by rw[ae hblk2];simp
   have hcl3:w2.cell? ⟨w.heap.size,k*7+3,none⟩=some cur[k*7+3]:=by rw[ae hblk2];simp
   have hcl4:w2.cell? ⟨w.heap.size,k*7+4,none⟩=some cur[k*7+4]:=by rw[ae hblk2];simp
   have hcl5:w2.cell? ⟨w.heap.size,k*7+5,none⟩=some cur[k*7+5]:=by rw[ae hblk2];simp
   have hcl6:w2.cell? ⟨w.heap.size,k*7+6,none⟩=some cur[k*7+6]:=by rw[ae hblk2];simp
   have hb3:Below w.heap.size w w2:=hb.trans (hb2.mono hb.size);go_wp2;go_roundw
   case rel=>
    have hab:aZ (w.heap.size+1) w2 (((((((w2.setCell ⟨w.heap.size,k*7,none⟩ (.int .i64 xs[k].kind)).setCell ⟨w.heap.size,k*7+1,none⟩ (.int .i64 xs[k].spec.f)).setCell ⟨w.heap.size,k*7+2,none⟩ (.int .i64 xs[k].spec.pc)).setCell ⟨w.heap.size,k*7+3,none⟩ (.int .i64 xs[k].spec.seen)).setCell ⟨w.heap.size,k*7+4,none⟩ (.int .i64 xs[k].spec.target)).setCell ⟨w.heap.size,k*7+5,none⟩ (.slice (some ⟨g0,0,none⟩) xs[k].frames.length xs[k].frames.length)).setCell ⟨w.heap.size,k*7+6,none⟩ (.slice (some ⟨g1,0,none⟩) xs[k].recs.length xs[k].recs.length)):=((((((((aZ.refl _ _).setCell (by simp) _).setCell (by simp) _).setCell (by simp) _).setCell (by simp) _).setCell (by simp) _).setCell (by simp) _).setCell (by simp) _);refine⟨k+1,(((((((cur.setIfInBounds (k*7) (.int .i64 xs[k].kind)).setIfInBounds (k*7+1) (.int .i64 xs[k].spec.f)).setIfInBounds (k*7+2) (.int .i64 xs[k].spec.pc)).setIfInBounds (k*7+3) (.int .i64 xs[k].spec.seen)).setIfInBounds (k*7+4) (.int .i64 xs[k].spec.target)).setIfInBounds (k*7+5) (.slice (some ⟨g0,0,none⟩) xs[k].frames.length xs[k].frames.length)).setIfInBounds (k*7+6) (.slice (some ⟨g1,0,none⟩) xs[k].recs.length xs[k].recs.length)),by omega,by go_num,(ak (ak (ak (ak (ak (ak (ak hblk2 _) _) _) _) _) _) _),by simpa using hsz,?_,(((((((hb3.setCell n_l _).setCell n_l _).setCell n_l _).setCell n_l _).setCell n_l _).setCell n_l _).setCell n_l _)⟩;intro j hj hjk;by_cases e:j=k
    ·subst e;refine⟨g0,g1,?_,?_,?_,?_,?_,?_,?_,(s0.low (by omega)).above hab,(s1.low (by omega)).above hab⟩
     ·rw[aj _ (by omega),aj _ (by omega),aj _ (by omega),aj _ (by omega),aj _ (by omega),aj _ (by omega)];exact aC _ (by first | omega | (simp;omega))
     ·rw[aj _ (by omega),aj _ (by omega),aj _ (by omega),aj _ (by omega),aj _ (by omega)];exact aC _ (by first | omega | (simp;omega))
     ·rw[aj _ (by omega),aj _ (by omega),aj _ (by omega),aj _ (by omega)];exact aC _ (by first | omega | (simp;omega))
     ·rw[aj _ (by omega),aj _ (by omega),aj _ (by omega)];exact aC _ (by first | omega | (simp;omega))
     ·rw[aj _ (by omega),aj _ (by omega)];exact aC _ (by first | omega | (simp;omega))
     ·rw[aj _ (by omega)];exact aC _ (by first | omega | (simp;omega))
     ·exact aC _ (by first | omega | (simp;omega))
    ·obtain⟨g0',g1',d0,d1,d2,d3,d4,d5,d6,s0',s1'⟩:=hdone j hj (by omega);refine⟨g0',g1',?_,?_,?_,?_,?_,?_,?_,(s0'.mono hb2).above hab,(s1'.mono hb2).above hab⟩
     ·rw[aj _ (by omega),aj _ (by omega),aj _ (by omega),aj _ (by omega),aj _ (by omega),aj _ (by omega),aj _ (by omega)];exact d0
     ·rw[aj _ (by omega),aj _ (by omega),aj _ (by omega),aj _ (by omega),aj _ (by omega),aj _ (by omega),aj _ (by omega)];exact d1
     ·rw[aj _ (by omega),aj _ (by omega),aj _ (by omega),aj _ (by omega),aj _ (by omega),aj _ (by omega),aj _ (by omega)];exact d2
     ·rw[aj _ (by omega),aj _ (by omega),aj _ (by omega),aj _ (by omega),aj _ (by omega),aj _ (by omega),aj _ (by omega)];exact d3
     ·rw[aj _ (by omega),aj _ (by omega),aj _ (by omega),aj _ (by omega),aj _ (by omega),aj _ (by omega),aj _ (by omega)];exact d4
     ·rw[aj _ (by omega),aj _ (by omega),aj _ (by omega),aj _ (by omega),aj _ (by omega),aj _ (by omega),aj _ (by omega)];exact d5
     ·rw[aj _ (by omega),aj _ (by omega),aj _ (by omega),aj _ (by omega),aj _ (by omega),aj _ (by omega),aj _ (by omega)];exact d6
   case measure=>simp[intOf];omega
  ·go_wp2;go_ret
   refine⟨rfl,⟨fun j hj=>?_,w.heap.size,rfl,Nat.le_refl _,cur,hblk,hsz,fun j hj=>?_⟩,hb⟩
   ·obtain⟨g0',g1',d0,d1,d2,d3,d4,d5,d6,s0',s1'⟩:=hdone j hj (by omega);exact⟨w.heap.size,0,some ⟨g0',0,none⟩,xs[j].frames.length,some ⟨g1',0,none⟩,xs[j].recs.length,rfl,Nat.le_refl _,by rw[ae hblk,Nat.zero_add];exact d0,by rw[ae hblk,Nat.zero_add];exact d1,by rw[ae hblk,Nat.zero_add];exact d2,by rw[ae hblk,Nat.zero_add];exact d3,by rw[ae hblk,Nat.zero_add];exact d4,by rw[ae hblk,Nat.zero_add];exact d5,by rw[ae hblk,Nat.zero_add];exact d6,s0'.at_.low (by omega),s1'.at_.low (by omega)⟩
   ·obtain⟨g0',g1',d0,d1,d2,d3,d4,d5,d6,s0',s1'⟩:=hdone j hj (by omega);exact⟨by rw[d0];exact az _ _,by rw[d1];exact az _ _,by rw[d2];exact az _ _,by rw[d3];exact az _ _,by rw[d4];exact az _ _,g0',g1',d5,d6,s0'.of.low (by omega),s1'.of.low (by omega)⟩
theorem toFOp_b(x:Fo)(w:World) :
  Calls Tryz.prog 99 #[.agg #[.int .i64 x.op,.int .i64 x.d,.int .i64 x.a,.int .i64 x.b,.int .i64 x.x,.int .i64 x.f,.int .i64 x.p,.int .i64 x.v.k,.int .i64 x.v.n,.string x.v.s]] w fun e w'=>e=.returned (.agg #[.int .i64 x.op,.int .i64 x.d,.int .i64 x.a,.int .i64 x.b,.int .i64 x.x,.int .i64 x.f,.int .i64 x.p,.int .i64 x.v.k,.int .i64 x.v.n,.string x.v.s])/\Below w.heap.size w w':=by
 have hbA:Below w.heap.size w (((w.alloc (.cells #[.int .i64 x.op,.int .i64 x.d,.int .i64 x.a,.int .i64 x.b,.int .i64 x.x,.int .i64 x.f,.int .i64 x.p,.int .i64 x.v.k,.int .i64 x.v.n,.string x.v.s] 150)).alloc (.cells #[.int .i64 0,.int .i64 0,.int .i64 0,.int .i64 0,.int .i64 0,.int .i64 0,.int .i64 0,.int .i64 0,.int .i64 0,.string ⟨#[]⟩] 163)).alloc (.cells #[.int .i64 x.op,.int .i64 x.d,.int .i64 x.a,.int .i64 x.b,.int .i64 x.x,.int .i64 x.f,.int .i64 x.p,.int .i64 0,.int .i64 0,.string ⟨#[]⟩] 163)):=((b_r.alloc n_l _).alloc (by simp) _).alloc (by simp;omega) _;have hI0:=au (au (al w #[.int .i64 x.op,.int .i64 x.d,.int .i64 x.a,.int .i64 x.b,.int .i64 x.x,.int .i64 x.f,.int .i64 x.p,.int .i64 x.v.k,.int .i64 x.v.n,.string x.v.s] 150) (.cells #[.int .i64 0,.int .i64 0,.int .i64 0,.int .i64 0,.int .i64 0,.int .i64 0,.int .i64 0,.int .i64 0,.int .i64 0,.string ⟨#[]⟩] 163)) (.cells #[.int .i64 x.op,.int .i64 x.d,.int .i64 x.a,.int .i64 x.b,.int .i64 x.x,.int .i64 x.f,.int .i64 x.p,.int .i64 0,.int .i64 0,.string ⟨#[]⟩] 163);have hR0:=au (al (w.alloc (.cells #[.int .i64 x.op,.int .i64 x.d,.int .i64 x.a,.int .i64 x.b,.int .i64 x.x,.int .i64 x.f,.int .i64 x.p,.int .i64 x.v.k,.int .i64 x.v.n,.string x.v.s] 150)) #[.int .i64 0,.int .i64 0,.int .i64 0,.int .i64 0,.int .i64 0,.int .i64 0,.int .i64 0,.int .i64 0,.int .i64 0,.string ⟨#[]⟩] 163) (.cells #[.int .i64 x.op,.int .i64 x.d,.int .i64 x.a,.int .i64 x.b,.int .i64 x.x,.int .i64 x.f,.int .i64 x.p,.int .i64 0,.int .i64 0,.string ⟨#[]⟩] 163)
 have hO0:=al ((w.alloc (.cells #[.int .i64 x.op,.int .i64 x.d,.int .i64 x.a,.int .i64 x.b,.int .i64 x.x,.int .i64 x.f,.int .i64 x.p,.int .i64 x.v.k,.int .i64 x.v.n,.string x.v.s] 150)).alloc (.cells #[.int .i64 0,.int .i64 0,.int .i64 0,.int .i64 0,.int .i64 0,.int .i64 0,.int .i64 0,.int .i64 0,.int .i64 0,.string ⟨#[]⟩] 163)) #[.int .i64 x.op,.int .i64 x.d,.int .i64 x.a,.int .i64 x.b,.int .i64 x.x,.int .i64 x.f,.int .i64 x.p,.int .i64 0,.int .i64 0,.string ⟨#[]⟩] 163;simp only[World.size_alloc] at hR0 hO0
 go_enter Tryz.func99,Tryz.ntmps99
 go_wp2_with fail
 refine (ei _ _ _ _).mono ?_;rintro e w1 ⟨rfl,hbn⟩;have hI1:=ah hI0 hbn;have hR1:=ah hR0 hbn;have hO1:=ah hO0 hbn;have hB1:=hbA.trans (hbn.mono hbA.size);clear hI0 hR0 hO0 hbA hbn;have i1:=ae hI1;have r1:=ae hR1;have r2:=aq hR1;have o1:=ae hO1;have o2:=aq hO1;have hzy:w.heap.size+1+1<w1.heap.size:=ay hO1;go_wp2;refine bodyPost_ret (v:=.agg #[.int .i64 x.op,.int .i64 x.d,.int .i64 x.a,.int .i64 x.b,.int .i64 x.x,.int .i64 x.f,.int .i64 x.p,.int .i64 x.v.k,.int .i64 x.v.n,.string x.v.s]) (by simp[results,Tryz.results99,go_sem,r1]) rfl ⟨rfl,?_⟩
 ·exact (((((((((((((hB1.setCell (by simp;first | done | omega) _).setCell (by simp;first | done | omega) _).setCell (by simp;first | done | omega) _).setCell (by simp;first | done | omega) _).setCell (by simp;first | done | omega) _).setCell (by simp;first | done | omega) _).setCell (by simp;first | done | omega) _).setCell (by simp;first | done | omega) _).setCell (by simp;first | done | omega) _).setCell (by simp;first | done | omega) _).setCell (by simp;first | done | omega) _).setCell (by simp;first | done | omega) _).setCell (by simp;first | done | omega) _)
theorem toFOpS_b(a:Option Addr)(xs:List Fo)(cap:Nat)(w:World)(hx:bj dx xs)(hm:cV w 0 a xs) :
  Calls Tryz.prog 53 #[.slice a xs.length cap] w fun e w'=>e=.returned (.slice (some ⟨w.heap.size,0,none⟩) xs.length xs.length)/\FoY w' w.heap.size (some ⟨w.heap.size,0,none⟩) xs/\Below w.heap.size w w':=by
 obtain⟨hn,hc⟩:=hx;obtain⟨i0,hi,hz0,hz1,hz2⟩:=info_parts infoTFOp;go_enter Tryz.func53,Tryz.ntmps53
 go_wp2_with (first | (at_make;refine wpList_make_full _ rfl _ _ 38 rfl w.heap.size 163 i0 (.agg #[.int .i64 0,.int .i64 0,.int .i64 0,.int .i64 0,.int .i64 0,.int .i64 0,.int .i64 0,.int .i64 0,.int .i64 0,.string ByteArray.empty]) 10 Tryz.underlying38 hi hz0 hz1 _ _ _ _ xs.length rfl rfl rfl rfl (by rw[hz2];omega) (by unfold maxLen;omega) n_l ?_;intro w1 hown hgrow))
 obtain⟨cur0,hblk,hsz⟩:=aY hown;have hb0:Below w.heap.size w w1:=b_r.grown hgrow n_l (by intro k hk;cases hk);clear hown hgrow hi hz0 hz1 hz2;go_loopw [4] (fun i wr=>∃(k:Nat) (cur:Array Value),k<=xs.length/\i=.int .i64 k/\wr.heap[w.heap.size]?=some (.cells cur 163 (0,0))/\cur.size=xs.length*10/\(∀j (hj:j<xs.length),j<k->cur[j*10]?=some (.int .i64 xs[j].op)/\cur[j*10+1]?=some (.int .i64 xs[j].d)/\cur[j*10+2]?=some (.int .i64 xs[j].a)/\cur[j*10+3]?=some (.int .i64 xs[j].b)/\cur[j*10+4]?=some (.int .i64 xs[j].x)/\cur[j*10+5]?=some (.int .i64 xs[j].f)/\cur[j*10+6]?=some (.int .i64 xs[j].p)/\cur[j*10+7]?=some (.int .i64 xs[j].v.k)/\cur[j*10+8]?=some (.int .i64 xs[j].v.n)/\cur[j*10+9]?=some (.string xs[j].v.s))/\Below w.heap.size w wr) (fun i _=>xs.length-(intOf i).toNat)
 case atStart=>exact⟨0,cur0,by omega,rfl,hblk,hsz,fun j _ h=>by omega,hb0⟩
 case round=>
  obtain⟨k,cur,hk,rfl,hblk,hsz,hdone,hb⟩:=hrel;by_cases hlt:k<xs.length
  ·obtain⟨b,off,rfl,-,d0,d1,d2,d3,d4,d5,d6,d7,d8,d9⟩:=hm k hlt;have e0:=cell_later hb d0;have e1:=cell_later hb d1;have e2:=cell_later hb d2;have e3:=cell_later hb d3;have e4:=cell_later hb d4;have e5:=cell_later hb d5;have e6:=cell_later hb d6;have e7:=cell_later hb d7;have e8:=cell_later hb d8;have e9:=cell_later hb d9;clear d0 d1 d2 d3 d4 d5 d6 d7 d8 d9;have hgs:w.heap.size<wr.heap.size:=ay hblk;go_wp2_with fail
   refine (toFOp_b xs[k] _).mono ?_;rintro e w2 ⟨rfl,hb2⟩;have hblk2:=ah hblk hb2;have hfz:=aq hblk2;have hcl0:w2.cell? ⟨w.heap.size,k*10,none⟩=some cur[k*10]:=by rw[ae hblk2];simp
   have hcl1:w2.cell? ⟨w.heap.size,k*10+1,none⟩=some cur[k*10+1]:=by rw[ae hblk2];simp
   have hcl2:w2.cell? ⟨w.heap.size,k*10+2,none⟩=some cur[k*10+2]:=by rw[ae hblk2];simp
   have hcl3:w2.cell? ⟨w.heap.size,k*10+3,none⟩=some cur[k*10+3]:=by rw[ae hblk2];simp
   have hcl4:w2.cell? ⟨w.heap.size,k*10+4,none⟩=some cur[k*10+4]:=by rw[ae hblk2];simp
   have hcl5:w2.cell? ⟨w.heap.size,k*10+5,none⟩=some cur[k*10+5]:=by rw[ae hblk2];simp
   have hcl6:w2.cell? ⟨w.heap.size,k*10+6,none⟩=some cur[k*10+6]:=by rw[ae hblk2];simp
   have hcl7:w2.cell? ⟨w.heap.size,k*10+7,none⟩=some cur[k*10+7]:=by rw[ae hblk2];simp
   have hcl8:w2.cell? ⟨w.heap.size,k*10+8,none⟩=some cur[k*10+8]:=by rw[ae hblk2];simp
   have hcl9:w2.cell? ⟨w.heap.size,k*10+9,none⟩=some cur[k*10+9]:=by rw[ae hblk2];simp
   have hb3:Below w.heap.size w w2:=hb.trans (hb2.mono hb.size);go_wp2;go_roundw
   case rel=>
    have hab:aZ (w.heap.size+1) w2 ((((((((((w2.setCell ⟨w.heap.size,k*10,none⟩ (.int .i64 xs[k].op)).setCell ⟨w.heap.size,k*10+1,none⟩ (.int .i64 xs[k].d)).setCell ⟨w.heap.size,k*10+2,none⟩ (.int .i64 xs[k].a)).setCell ⟨w.heap.size,k*10+3,none⟩ (.int .i64 xs[k].b)).setCell ⟨w.heap.size,k*10+4,none⟩ (.int .i64 xs[k].x)).setCell ⟨w.heap.size,k*10+5,none⟩ (.int .i64 xs[k].f)).setCell ⟨w.heap.size,k*10+6,none⟩ (.int .i64 xs[k].p)).setCell ⟨w.heap.size,k*10+7,none⟩ (.int .i64 xs[k].v.k)).setCell ⟨w.heap.size,k*10+8,none⟩ (.int .i64 xs[k].v.n)).setCell ⟨w.heap.size,k*10+9,none⟩ (.string xs[k].v.s)):=(((((((((((aZ.refl _ _).setCell (by simp) _).setCell (by simp) _).setCell (by simp) _).setCell (by simp) _).setCell (by simp) _).setCell (by simp) _).setCell (by simp) _).setCell (by simp) _).setCell (by simp) _).setCell (by simp) _);refine⟨k+1,((((((((((cur.setIfInBounds (k*10) (.int .i64 xs[k].op)).setIfInBounds (k*10+1) (.int .i64 xs[k].d)).setIfInBounds (k*10+2) (.int .i64 xs[k].a)).setIfInBounds (k*10+3) (.int .i64 xs[k].b)).setIfInBounds (k*10+4) (.int .i64 xs[k].x)).setIfInBounds (k*10+5) (.int .i64 xs[k].f)).setIfInBounds (k*10+6) (.int .i64 xs[k].p)).setIfInBounds (k*10+7) (.int .i64 xs[k].v.k)).setIfInBounds (k*10+8) (.int .i64 xs[k].v.n)).setIfInBounds (k*10+9) (.string xs[k].v.s)),by omega,by go_num,(ak (ak (ak (ak (ak (ak (ak (ak (ak (ak hblk2 _) _) _) _) _) _) _) _) _) _),by simpa using hsz,?_,((((((((((hb3.setCell n_l _).setCell n_l _).setCell n_l _).setCell n_l _).setCell n_l _).setCell n_l _).setCell n_l _).setCell n_l _).setCell n_l _).setCell n_l _)⟩
    intro j hj hjk;by_cases e:j=k
    ·subst e;refine⟨?_,?_,?_,?_,?_,?_,?_,?_,?_,?_⟩
     ·rw[aj _ (by omega),aj _ (by omega),aj _ (by omega),aj _ (by omega),aj _ (by omega),aj _ (by omega),aj _ (by omega),aj _ (by omega),aj _ (by omega)];exact aC _ (by first | omega | (simp;omega))
     ·rw[aj _ (by omega),aj _ (by omega),aj _ (by omega),aj _ (by omega),aj _ (by omega),aj _ (by omega),aj _ (by omega),aj _ (by omega)];exact aC _ (by first | omega | (simp;omega))
     ·rw[aj _ (by omega),aj _ (by omega),aj _ (by omega),aj _ (by omega),aj _ (by omega),aj _ (by omega),aj _ (by omega)];exact aC _ (by first | omega | (simp;omega))
     ·rw[aj _ (by omega),aj _ (by omega),aj _ (by omega),aj _ (by omega),aj _ (by omega),aj _ (by omega)];exact aC _ (by first | omega | (simp;omega))
     ·rw[aj _ (by omega),aj _ (by omega),aj _ (by omega),aj _ (by omega),aj _ (by omega)];exact aC _ (by first | omega | (simp;omega))
     ·rw[aj _ (by omega),aj _ (by omega),aj _ (by omega),aj _ (by omega)];exact aC _ (by first | omega | (simp;omega))
     ·rw[aj _ (by omega),aj _ (by omega),aj _ (by omega)];exact aC _ (by first | omega | (simp;omega))
     ·rw[aj _ (by omega),aj _ (by omega)];exact aC _ (by first | omega | (simp;omega))
     ·rw[aj _ (by omega)];exact aC _ (by first | omega | (simp;omega))
     ·exact aC _ (by first | omega | (simp;omega))
    ·obtain⟨d0,d1,d2,d3,d4,d5,d6,d7,d8,d9⟩:=hdone j hj (by omega);refine⟨?_,?_,?_,?_,?_,?_,?_,?_,?_,?_⟩
     ·rw[aj _ (by omega),aj _ (by omega),aj _ (by omega),aj _ (by omega),aj _ (by omega),aj _ (by omega),aj _ (by omega),aj _ (by omega),aj _ (by omega),aj _ (by omega)];exact d0
     ·rw[aj _ (by omega),aj _ (by omega),aj _ (by omega),aj _ (by omega),aj _ (by omega),aj _ (by omega),aj _ (by omega),aj _ (by omega),aj _ (by omega),aj _ (by omega)];exact d1
     ·rw[aj _ (by omega),aj _ (by omega),aj _ (by omega),aj _ (by omega),aj _ (by omega),aj _ (by omega),aj _ (by omega),aj _ (by omega),aj _ (by omega),aj _ (by omega)];exact d2
     ·rw[aj _ (by omega),aj _ (by omega),aj _ (by omega),aj _ (by omega),aj _ (by omega),aj _ (by omega),aj _ (by omega),aj _ (by omega),aj _ (by omega),aj _ (by omega)];exact d3
     ·rw[aj _ (by omega),aj _ (by omega),aj _ (by omega),aj _ (by omega),aj _ (by omega),aj _ (by omega),aj _ (by omega),aj _ (by omega),aj _ (by omega),aj _ (by omega)];exact d4
     ·rw[aj _ (by omega),aj _ (by omega),aj _ (by omega),aj _ (by omega),aj _ (by omega),aj _ (by omega),aj _ (by omega),aj _ (by omega),aj _ (by omega),aj _ (by omega)];exact d5
     ·rw[aj _ (by omega),aj _ (by omega),aj _ (by omega),aj _ (by omega),aj _ (by omega),aj _ (by omega),aj _ (by omega),aj _ (by omega),aj _ (by omega),aj _ (by omega)];exact d6
     ·rw[aj _ (by omega),aj _ (by omega),aj _ (by omega),aj _ (by omega),aj _ (by omega),aj _ (by omega),aj _ (by omega),aj _ (by omega),aj _ (by omega),aj _ (by omega)];exact d7
     ·rw[aj _ (by omega),aj _ (by omega),aj _ (by omega),aj _ (by omega),aj _ (by omega),aj _ (by omega),aj _ (by omega),aj _ (by omega),aj _ (by omega),aj _ (by omega)];exact d8
     ·rw[aj _ (by omega),aj _ (by omega),aj _ (by omega),aj _ (by omega),aj _ (by omega),aj _ (by omega),aj _ (by omega),aj _ (by omega),aj _ (by omega),aj _ (by omega)];exact d9
   case measure=>simp[intOf];omega
  ·go_wp2;go_ret
   refine⟨rfl,⟨fun j hj=>?_,w.heap.size,rfl,Nat.le_refl _,cur,hblk,hsz,fun j hj=>?_⟩,hb⟩
   ·obtain⟨d0,d1,d2,d3,d4,d5,d6,d7,d8,d9⟩:=hdone j hj (by omega);exact⟨w.heap.size,0,rfl,Nat.le_refl _,by rw[ae hblk,Nat.zero_add];exact d0,by rw[ae hblk,Nat.zero_add];exact d1,by rw[ae hblk,Nat.zero_add];exact d2,by rw[ae hblk,Nat.zero_add];exact d3,by rw[ae hblk,Nat.zero_add];exact d4,by rw[ae hblk,Nat.zero_add];exact d5,by rw[ae hblk,Nat.zero_add];exact d6,by rw[ae hblk,Nat.zero_add];exact d7,by rw[ae hblk,Nat.zero_add];exact d8,by rw[ae hblk,Nat.zero_add];exact d9⟩
   ·obtain⟨d0,d1,d2,d3,d4,d5,d6,d7,d8,d9⟩:=hdone j hj (by omega);exact⟨by rw[d0];exact az _ _,by rw[d1];exact az _ _,by rw[d2];exact az _ _,by rw[d3];exact az _ _,by rw[d4];exact az _ _,by rw[d5];exact az _ _,by rw[d6];exact az _ _,by rw[d7];exact az _ _,by rw[d8];exact az _ _,by rw[d9];exact eU _⟩
theorem toFast_b(oa ea:Option Addr)(oc ec:Nat)(d:aR)(w:World)(hx:a8 d)(hm:br w 0 oa ea d) :
  Calls Tryz.prog 11 #[.agg (aK oa ea oc ec d)] w fun e w'=>∃g g2,e=.returned (.agg (aK (some ⟨g,0,none⟩) (some ⟨g2,0,none⟩) d.ops.length d.exits.length d))/\br w' w.heap.size (some ⟨g,0,none⟩) (some ⟨g2,0,none⟩) d/\FoB w' w.heap.size g d.ops/\ExB w' w.heap.size g2 d.exits/\Below w.heap.size w w':=by
 unfold aK;have hbA:Below w.heap.size w (((w.alloc (.cells #[.int .i64 d.fn,.int .i64 d.entry,.int .i64 d.vals,.int .i64 d.nums,.slice oa d.ops.length oc,.slice ea d.exits.length ec] 29)).alloc (.cells #[.int .i64 0,.int .i64 0,.int .i64 0,.int .i64 0,.slice none 0 0,.slice none 0 0] 41)).alloc (.cells #[.int .i64 d.fn,.int .i64 d.entry,.int .i64 d.vals,.int .i64 d.nums,.slice none 0 0,.slice none 0 0] 41)):=((b_r.alloc n_l _).alloc (by simp) _).alloc (by simp;omega) _;have hI0:=au (au (al w #[.int .i64 d.fn,.int .i64 d.entry,.int .i64 d.vals,.int .i64 d.nums,.slice oa d.ops.length oc,.slice ea d.exits.length ec] 29) (.cells #[.int .i64 0,.int .i64 0,.int .i64 0,.int .i64 0,.slice none 0 0,.slice none 0 0] 41)) (.cells #[.int .i64 d.fn,.int .i64 d.entry,.int .i64 d.vals,.int .i64 d.nums,.slice none 0 0,.slice none 0 0] 41);have hR0:=au (al (w.alloc (.cells #[.int .i64 d.fn,.int .i64 d.entry,.int .i64 d.vals,.int .i64 d.nums,.slice oa d.ops.length oc,.slice ea d.exits.length ec] 29)) #[.int .i64 0,.int .i64 0,.int .i64 0,.int .i64 0,.slice none 0 0,.slice none 0 0] 41) (.cells #[.int .i64 d.fn,.int .i64 d.entry,.int .i64 d.vals,.int .i64 d.nums,.slice none 0 0,.slice none 0 0] 41);have hO0:=al ((w.alloc (.cells #[.int .i64 d.fn,.int .i64 d.entry,.int .i64 d.vals,.int .i64 d.nums,.slice oa d.ops.length oc,.slice ea d.exits.length ec] 29)).alloc (.cells #[.int .i64 0,.int .i64 0,.int .i64 0,.int .i64 0,.slice none 0 0,.slice none 0 0] 41)) #[.int .i64 d.fn,.int .i64 d.entry,.int .i64 d.vals,.int .i64 d.nums,.slice none 0 0,.slice none 0 0] 41
 simp only[World.size_alloc] at hR0 hO0
 go_enter Tryz.func11,Tryz.ntmps11
 go_wp2_with fail
 refine (toFOpS_b oa d.ops oc _ hx.1 (hm.ops.mono hbA)).mono ?_;rintro e w1 ⟨rfl,hnew,hbn⟩;have hI1:=ah hI0 hbn;have hR1:=ah hR0 hbn;have hO1:=ah hO0 hbn;have hB1:=hbA.trans (hbn.mono hbA.size);simp only[World.size_alloc] at hnew
 have q0:=hnew;clear hI0 hR0 hO0 hbA hbn hnew;obtain⟨x1,hx1⟩:∃x1,x1=(w1.setCell ⟨w.heap.size+1+1,4,none⟩ (.slice (some ⟨w.heap.size+1+1+1,0,none⟩) d.ops.length d.ops.length)):=⟨_,rfl⟩;have hOx:x1.heap[w.heap.size+1+1]?=some (.cells #[.int .i64 d.fn,.int .i64 d.entry,.int .i64 d.vals,.int .i64 d.nums,.slice (some ⟨w.heap.size+1+1+1,0,none⟩) d.ops.length d.ops.length,.slice none 0 0] 41 (0,0)):=by rw[hx1];simpa using (ak (i:=4) hO1 (.slice (some ⟨w.heap.size+1+1+1,0,none⟩) d.ops.length d.ops.length))
 have hRx:x1.heap[w.heap.size+1]?=some (.cells #[.int .i64 0,.int .i64 0,.int .i64 0,.int .i64 0,.slice none 0 0,.slice none 0 0] 41 (0,0)):=by rw[hx1,Below.heap_setCell _ _ _ _ (by simp)];exact hR1
 have hIx:x1.heap[w.heap.size]?=some (.cells #[.int .i64 d.fn,.int .i64 d.entry,.int .i64 d.vals,.int .i64 d.nums,.slice oa d.ops.length oc,.slice ea d.exits.length ec] 29 (0,0)):=by rw[hx1,Below.heap_setCell _ _ _ _ (by simp;omega)];exact hI1
 have hBx:Below w.heap.size w x1:=by rw[hx1];exact (hB1.setCell (by simp;omega) _)
 have hzx:w.heap.size+1+1+1<=x1.heap.size:=ay hOx;have q0x:=q0.above (w':=x1) (by rw[hx1];exact ((aZ.refl _ _).setCell (by simp) _));have i1:=ae hI1;have o1:=ae hO1;have o2:=aq hO1;go_wp2_with fail
 rw[<-hx1];clear hx1 i1 o1 o2 hI1 hR1 hO1 hB1 q0;refine (toExitS_b ea d.exits ec _ hx.2 (hm.exits.mono hBx)).mono ?_;rintro e w2 ⟨rfl,hnew,hbn⟩;have hI2:=ah hIx hbn;have hR2:=ah hRx hbn;have hO2:=ah hOx hbn;have hB2:=hBx.trans (hbn.mono hBx.size);have q0:=q0x.mono hbn;have q1:=hnew.low hzx;clear hIx hRx hOx hBx hbn hnew q0x;have i1:=ae hI2;have r1:=ae hR2;have r2:=aq hR2;have o1:=ae hO2;have o2:=aq hO2;have hzy:w.heap.size+1+1<w2.heap.size:=ay hO2;go_wp2;refine bodyPost_ret (v:=.agg #[.int .i64 d.fn,.int .i64 d.entry,.int .i64 d.vals,.int .i64 d.nums,.slice (some ⟨w.heap.size+1+1+1,0,none⟩) d.ops.length d.ops.length,.slice (some ⟨x1.heap.size,0,none⟩) d.exits.length d.exits.length]) (by simp[results,Tryz.results11,go_sem,r1]) rfl ⟨_,_,rfl,⟨?_,?_⟩,?_,?_,?_⟩
 ·exact (q0.above ((((((((aZ.refl _ _).setCell (by simp) _).setCell (by simp) _).setCell (by simp) _).setCell (by simp) _).setCell (by simp) _).setCell (by simp) _).setCell (by simp) _)).at_.low (by omega)
 ·exact (q1.above ((((((((aZ.refl _ _).setCell (by simp) _).setCell (by simp) _).setCell (by simp) _).setCell (by simp) _).setCell (by simp) _).setCell (by simp) _).setCell (by simp) _)).at_.low (by omega)
 ·exact (q0.above ((((((((aZ.refl _ _).setCell (by simp) _).setCell (by simp) _).setCell (by simp) _).setCell (by simp) _).setCell (by simp) _).setCell (by simp) _).setCell (by simp) _)).of.low (by omega)
 ·exact (q1.above ((((((((aZ.refl _ _).setCell (by simp) _).setCell (by simp) _).setCell (by simp) _).setCell (by simp) _).setCell (by simp) _).setCell (by simp) _).setCell (by simp) _)).of.low (by omega)
 ·exact (((((((hB2.setCell (by simp;first | done | omega) _).setCell (by simp;first | done | omega) _).setCell (by simp;first | done | omega) _).setCell (by simp;first | done | omega) _).setCell (by simp;first | done | omega) _).setCell (by simp;first | done | omega) _).setCell (by simp;first | done | omega) _)
end Go.Proofs.YtbjmgmmekmfjhaaGreatDoor
