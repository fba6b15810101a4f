/- TV12 -/
import Derived.Test.YtdlkbbgmjilccaaGreatDoorTV7
import Derived.Shelf.Bits.Mul64
import Derived.Laws.CopyOwn
import Derived.Deep.RegionLaw
import Derived.WalkMore
set_option maxHeartbeats 32000000
set_option maxRecDepth 100000
namespace Go.Proofs.YtdlkbbgmjilccaaGreatDoor
open Go.RowKit
theorem mul64_one(n:Nat)(hn:n<=1048576)(w:World) :
  Calls Tryz.prog 204 #[.int .u64 1,.int .u64 n] w fun e w'=>e=.returned (.tuple #[.int .u64 0,.int .u64 n])/\w'=w:=by
 have h0:bits .and .u64 0 4294967295=0:=Mul64.maskN 0 (by omega);have h1:bits .and .u64 1 4294967295=1:=Mul64.maskN 1 (by omega);have h2:=Mul64.maskN n (by omega);rw[Nat.mod_eq_of_lt (by omega)] at h2;have h3:=Mul64.wrapN n (by omega);have h4:(n:Int) / 4294967296=0:=by omega
 have h5:IntKind.u64.wrap 0=0:=Mul64.wrapN 0 (by omega);go_enter Tryz.func204,Tryz.ntmps204
 go_wp2;go_ret2
 exact⟨rfl,rfl⟩
theorem mul_one(n:Nat)(hn:n<=1048576)(w:World) :
  Calls Tryz.prog 178 #[.int .u64 1,.int .u64 n] w fun e w'=>e=.returned (.tuple #[.int .u64 0,.int .u64 n])/\w'=w:=by
 go_enter Tryz.func178,Tryz.ntmps178
 go_wp2_with (go_at_call 204;refine (mul64_one n hn _).mono ?_;rintro e w1 ⟨rfl,rfl⟩)
 go_ret2
 exact⟨rfl,rfl⟩
def cp (fs:List Fn)(op a z:Int)(e:Ending):Prop:=
 if z<(aG fs op a).1\/16<z-(aG fs op a).1+(aG fs op a).2 then ∃q,e=.returned (.tuple #[.int .i64 q,.bool false])
 else e=.returned (.tuple #[.int .i64 (z-(aG fs op a).1+(aG fs op a).2),.bool true])
theorem ret_ib{a b:Int}{x y:Bool}(h:a=b)(k:x=y):Ending.returned (.tuple #[.int .i64 a,.bool x])=.returned (.tuple #[.int .i64 b,.bool y]):=by rw[h,k]
theorem dL(a1 a2:Option Addr)(nt c1 c2:Nat)(fs:List Fn)(op a z:Int)(w:World)(hf:FnsAt w 0 a2 fs)(hp:∀f∈fs,0<=f.params/\f.params<=6)(z0:-1<=z)(z1:z<=16) :
  Calls Tryz.prog 147 #[.agg #[.slice a1 nt c1,.slice a2 fs.length c2],.agg #[.int .i64 op,.int .i64 a],.int .i64 z] w fun e w'=>cp fs op a z e/\Below w.heap.size w w':=by
 have hbA:Below w.heap.size w ((w.alloc (.cells #[.slice a1 nt c1,.slice a2 fs.length c2] 42)).alloc (.cells #[.int .i64 op,.int .i64 a] 153)):=(gM.alloc nL _).alloc (by simp) _;have hU:Hid (∀W:World,FnsAt W 0 a2 fs->Calls Tryz.prog 179 #[.agg #[.slice a1 nt c1,.slice a2 fs.length c2],.agg #[.int .i64 op,.int .i64 a]] W fun e w'=>e=.returned (.tuple #[.int .i64 (aG fs op a).1,.int .i64 (aG fs op a).2])/\Below W.heap.size W w'):=fun W hW=>iUses_any a1 a2 nt c1 c2 fs op a W hW
 have hL:Hid (cp fs op a z=fun e=>if z<(aG fs op a).1\/16<z-(aG fs op a).1+(aG fs op a).2 then ∃q,e=.returned (.tuple #[.int .i64 q,.bool false]) else e=.returned (.tuple #[.int .i64 (z-(aG fs op a).1+(aG fs op a).2),.bool true])):=rfl
 obtain⟨u0,u1,u2,u3⟩:=di hp op a;generalize (aG fs op a).1=t at *
 generalize (aG fs op a).2=l at *
 rcases (show z<0\/(0<=z/\z<t)\/(0<=z/\t<=z/\16<z-t+l)\/(0<=z/\t<=z/\z-t+l<=16) by omega) with h1 | ⟨h1,h2⟩ | ⟨h1,h2,h3⟩ | ⟨h1,h2,h3⟩
 all_goals
  first
   | (have hzz:(z == -1)=false:=by rw[beq_eq_false_iff_ne];omega)
   | (have hzz:(z == -1)=true:=by rw[beq_iff_eq];omega)
  go_enter Tryz.func147,Tryz.ntmps147
  go_wp2_with (go_at_call 179;refine (hU.out _ (hf.mono hbA)).mono ?_;rintro e w1 ⟨rfl,k1⟩)
  go_ret2
  refine⟨?_,hbA.trans (k1.mono (by simp;omega))⟩;rw[hL.out];by_cases hc:z<t\/16<z-t+l
  ·refine (if_pos hc).mpr ⟨_,ret_ib rfl ?_⟩;first | rfl | (rw[decide_eq_false_iff_not];omega) | (exfalso;omega)
  ·refine (if_neg hc).mpr (ret_ib ?_ ?_)
   ·first | rfl | omega
   ·first | rfl | (rw[decide_eq_true_eq];omega) | (exfalso;omega)
theorem iNext_any(op a:Int)(pc:Nat)(w:World)(hpc:pc<=1048576) :
  Calls Tryz.prog 148 #[.agg #[.int .i64 op,.int .i64 a],.int .i64 pc] w fun e w'=>∃ad cap,e=.returned (.slice ad (nextB op a pc).length cap)/\bM w' w.heap.size ad (nextB op a pc)/\Below w.heap.size w w':=by
 by_cases h25:op=25
 ·subst h25;rw[next25];go_enter Tryz.func148,Tryz.ntmps148
  go_wp2;go_ret
  exact⟨_,_,rfl,fun i hi=>absurd hi (by simp),gM.alloc nL _⟩
 by_cases h17:op=17
 ·subst h17;rw[next17];clear h25;go_enter Tryz.func148,Tryz.ntmps148
  go_wp2;go_ret
  refine⟨_,_,rfl,fun i hi=>⟨_,_,rfl,by simp,?_⟩,(gM.alloc nL _).alloc (by simp) _⟩;have hx:=aa (ah (w.alloc (.cells #[.int .i64 17,.int .i64 a] 153)) #[.int .i64 a] 3);rw[World.size_alloc] at hx;rw[hx];match i,hi with
  | 0,_=>rfl
 by_cases h2:op=18\/op=19
 ·rcases h2 with rfl | rfl
  all_goals
   first | rw[next18] | rw[next19]
   clear h25 h17;go_enter Tryz.func148,Tryz.ntmps148
   go_wp2;go_ret
   refine⟨_,_,rfl,fun i hi=>⟨_,_,rfl,by simp,?_⟩,(gM.alloc nL _).alloc (by simp) _⟩;rw[show ∀W:World,∀C n,W.heap.size=n->(W.alloc (.cells C 3)).cell? ⟨n,0+i,none⟩=C[0+i]? from fun W C n h=>by subst h;exact aa (ah W C 3) _]
   ·match i,hi with
    | 0,_=>rfl
    | 1,_=>rfl
   ·simp
 ·have h18:op≠18:=fun h=>h2 (Or.inl h)
  have h19:op≠19:=fun h=>h2 (Or.inr h)
  rw[next_else a pc h25 h17 h18 h19];have b25:(op == 25)=false:=by simpa using h25
  have b17:(op == 17)=false:=by simpa using h17
  have b18:(op == 18)=false:=by simpa using h18
  have b19:(op == 19)=false:=by simpa using h19
  clear h2 h25 h17 h18 h19;go_enter Tryz.func148,Tryz.ntmps148
  go_wp2;go_ret
  refine⟨_,_,rfl,fun i hi=>⟨_,_,rfl,by simp,?_⟩,(gM.alloc nL _).alloc (by simp) _⟩;rw[show ∀W:World,∀C n,W.heap.size=n->(W.alloc (.cells C 3)).cell? ⟨n,0+i,none⟩=C[0+i]? from fun W C n h=>by subst h;exact aa (ah W C 3) _]
  ·match i,hi with
   | 0,_=>rfl
  ·simp
theorem index_any(a:Option Addr)(xs:List Int)(cap:Nat)(v:Int)(w:World)(hn:xs.length<=1048576)(hm:bM w 0 a xs) :
  Calls Tryz.prog 180 #[.slice a xs.length cap,.int .i64 v] w fun e w'=>∃r:Int,e=.returned (.int .i64 r)/\decide (0<=r)=xs.any (fun x=>decide (x=v))/\w'=w:=by
 go_enter Tryz.func180,Tryz.ntmps180
 go_wp2;go_loop [8] (fun i=>∃(k:Nat),k<=xs.length/\i=.int .i64 k/\Hid ((xs.take k).any (fun x=>decide (x=v))=false)) (fun i=>xs.length-(intOf i).toNat)
 case atStart=>exact⟨0,by omega,rfl,by show _=_;simp⟩
 case round=>
  obtain⟨k,hk,rfl,hno⟩:=hrel;by_cases hlt:k<xs.length
  ·obtain⟨b,off,rfl,-,c1⟩:=hm k hlt;by_cases he:xs[k]=v
   ·have hb:(v == xs[k])=true:=by rw[beq_iff_eq];exact he.symm
    have HE:Hid (xs[k]=v):=he;clear he;go_wp2;go_ret
    refine⟨k,rfl,?_,rfl⟩;rw[decide_eq_true (by omega)];symm
    rw[List.any_eq_true];exact⟨xs[k],n_l hlt,by simpa using HE.out⟩
   ·have hb:(v == xs[k])=false:=by rw[beq_eq_false_iff_ne];exact fun h=>he h.symm
    have HE:Hid (¬xs[k]=v):=he;clear he;go_wp2;go_round
    case rel=>
     refine⟨k+1,by omega,by go_num,?_⟩;show _=_
     rw[List.take_succ_eq_append_getElem hlt,List.any_append,hno.out];simpa using HE.out
    case measure=>simp[intOf];omega
  ·have HE:Hid (xs.any (fun x=>decide (x=v))=false):=by
    have:=hno.out;rw[List.take_of_length_le (by omega)] at this;exact this
   clear hno;go_wp2;go_ret
   exact⟨-1,rfl,by rw[HE.out];rfl,rfl⟩
theorem contains_any(a:Option Addr)(xs:List Int)(cap:Nat)(v:Int)(w:World)(hn:xs.length<=1048576)(hm:bM w 0 a xs) :
  Calls Tryz.prog 149 #[.slice a xs.length cap,.int .i64 v] w fun e w'=>e=.returned (.bool (xs.any (fun x=>decide (x=v))))/\w'=w:=by
 go_enter Tryz.func149,Tryz.ntmps149
 go_wp2_with fail
 refine (index_any a xs cap v _ hn hm).mono ?_;rintro e w1 ⟨r,rfl,hr,rfl⟩;have HR:Hid (decide (0<=r)=xs.any (fun x=>decide (x=v))):=hr;clear hr;go_wp2;go_ret
 exact⟨aj HR.out,rfl⟩
theorem size3:(Tryz.prog.info? 3).map (·.size)=some 1:=by kernel_rfl
theorem splice_get{v:Value}{cur cs:List Value}{k:Nat}(hk:k+cs.length<=cur.length)(h1:∀j,j<k->cur[j]?=some v)(h2:∀x∈cs,x=v):∀j,j<k+cs.length->(splice cur k cs)[j]?=some v:=by
 intro j hj;unfold splice;by_cases hjk:j<k
 ·rw[List.getElem?_append_left (by simp;omega),List.getElem?_take_of_lt hjk];exact h1 j hjk
 ·rw[List.getElem?_append_right (by simp;omega)];rw[List.getElem?_append_left (by simp;omega)];rw[List.getElem?_eq_getElem (by simp;omega)];exact congrArg some (h2 _ (n_l _))
theorem fV(b o j:Nat):(⟨b,o,none⟩:Addr).add j=⟨b,o+j,none⟩:=Go.WideShapes.add_plain b o j
theorem one_cell{w:World}{b:Nat}{x:Value}(h:w.cell? ⟨b,0,none⟩=some x):∀(j:Nat) (u:Value),[x][j]?=some u->w.cell? ((⟨b,0,none⟩:Addr).add j)=some u:=by
 intro j u hj;match j,hj with
 | 0,hj=>
  simp at hj
  subst hj;rw[fV];exact h
 | j+1,hj=>simp at hj
theorem copy_first{w0 w1:World}{g b n:Nat}{cur:Array Value}{v:Int}(hn:1<=n)(hg:w1.heap[g]?=some (.cells cur 3 (0,0)))(hsz:cur.size=n)(hc:w1.cell? ⟨b,0,none⟩=some (.int .i64 v))(hb:Below g w0 w1) :
  ∃w2,(Builtin.copy_ #[148,148] 3 #[.slice (some ⟨g,0,none⟩) n n,.slice (some ⟨b,0,none⟩) 1 1]).run Tryz.prog w1=.ok (.int .i64 1) w2/\Hid (w2.heap[g]?=some (.cells (splice cur.toList 0 [.int .i64 v]).toArray 3 (0,0)))/\Below g w0 w2:=by
 have hrun:=run_copy_row (P:=Tryz.prog) w1 148 148 3 3 g 0 n n ⟨b,0,none⟩ 1 1 cur 3 [.int .i64 v] Tryz.underlying148 size3 hg (by show 1=Nat.min 1 n;exact (Nat.min_eq_left hn).symm) (one_cell hc) (by simp;omega) (by intro u hu;simp at hu;subst hu;rfl)
 refine⟨_,hrun,?_,below_setRow hb nL _⟩;show _=_
 simpa[splice] using setRow_heap w1 g _ _ 3 _ hg
theorem repeat_any(b n:Nat)(v:Int)(w:World)(h1:1<=n)(hn:n<=120)(hc:w.cell? ⟨b,0,none⟩=some (.int .i64 v)) :
  Calls Tryz.prog 146 #[.slice (some ⟨b,0,none⟩) 1 1,.int .i64 n] w fun e w'=>∃g,e=.returned (.slice (some ⟨g,0,none⟩) n n)/\w.heap.size<=g/\Ht w' g n (List.replicate n v)/\Below w.heap.size w w':=by
 obtain⟨i0,hi,hz0,hz1,hz2⟩:=info_parts info3;have hw1:IntKind.u64.wrap 1=1:=Mul64.wrapN 1 (by omega);have hwn:=Mul64.wrapN n (by omega);go_enter Tryz.func146,Tryz.ntmps146
 go_wp2_with (first | (go_at_call 178;refine (mul_one n (by omega) _).mono ?_;rintro e w1 ⟨rfl,hw⟩;rw[hw];clear hw w1) | (at_make;refine wpList_make_full _ rfl _ _ 148 rfl w.heap.size 3 i0 (.int .i64 0) 1 Tryz.underlying148 hi hz0 hz1 _ _ _ _ n rfl rfl rfl rfl (by rw[hz2];omega) (by unfold maxLen;omega) nL ?_;intro w1 hown hgrow;obtain⟨cur0,hblk,hsz⟩:=aR hown;have hb0:Below w.heap.size w w1:=gM.grown hgrow nL (by intro k hk;cases hk);have hc1:=cell_later hb0 hc;obtain⟨w2,hrun,hg2,hb2⟩:=copy_first h1 hblk (by omega) hc1 hb0;have HZ:Hid (cur0.size=n):=(show cur0.size=n by omega);clear hown hgrow hsz hc1 hblk))
 go_loopw [8] (fun i wr=>∃(k:Nat) (cur:List Value),1<=k/\k<=n/\i=.int .i64 k/\Hid (wr.heap[w.heap.size]?=some (.cells cur.toArray 3 (0,0)))/\Hid (cur.length=n)/\Hid (∀j,j<k->cur[j]?=some (.int .i64 v))/\Below w.heap.size w wr) (fun i _=>n-(intOf i).toNat)
 case atStart=>
  have hl0:cur0.toList.length=n:=by rw[Array.length_toList];exact HZ.out
  refine⟨1,_,Nat.le_refl _,h1,rfl,hg2,?_,?_,hb2⟩
  ·show _=_
   rw[length_splice _ _ _ (by rw[hl0];simpa using h1)];exact hl0
  ·exact splice_get (cur:=cur0.toList) (cs:=[.int .i64 v]) (k:=0) (by rw[hl0];simpa using h1) (fun j hj=>absurd hj (Nat.not_lt_zero _)) (by simp)
 case round=>
  obtain⟨k,cur,hk1,hkn,rfl,hg,hlen,hall,hb⟩:=hrel;by_cases hlt:k<n
  ·obtain⟨m,hm⟩:∃m,m=Nat.min k (n-k):=⟨_,rfl⟩;have hm1:1<=m:=by rw[hm];exact Nat.le_min.2 ⟨hk1,by omega⟩
   have hm2:m<=n-k:=by rw[hm];exact Nat.min_le_right _ _
   have hm3:m<=k:=by rw[hm];exact Nat.min_le_left _ _
   have HM:Hid (m=Nat.min k (n-k)):=hm;have HC:Hid (∀W:World,W.heap[w.heap.size]?=some (.cells cur.toArray 3 (0,0))->∀(j:Nat) (u:Value),(List.replicate m (Value.int .i64 v))[j]?=some u->W.cell? ((⟨w.heap.size,0,none⟩:Addr).add j)=some u):=by
    intro W hW j u hj;rw[List.getElem?_replicate] at hj;split at hj
    ·cases hj;rw[fV,aa hW,Nat.zero_add,List.getElem?_toArray];exact hall.out j (by omega)
    ·cases hj
   clear hm;have hne:¬n=k:=by omega
   have hkm:(k:Int)+(m:Int)<=120:=by omega
   have hwr:IntKind.i64.wrap ((k:Int)+(m:Int))=(k:Int)+(m:Int):=by rw[IntKind.wrap_i64];omega
   go_wp2;go_region_law (refine step_copy_splice (by rfl) (.tmp 41) (.tmp 44) 148 148 (by rfl) 3 Tryz.underlying148 size3 (some ⟨w.heap.size,k,none⟩) (some ⟨w.heap.size,0,none⟩) (n-k) (n-k) k n (by go_simp) (by go_simp) w.heap.size k cur 3 (by exact hg.out) (List.replicate m (.int .i64 v)) (by rw[List.length_replicate];exact HM.out) (fun _=>⟨by rfl,⟨w.heap.size,0,none⟩,by rfl,HC.out _ (by exact hg.out)⟩) (by rw[List.length_replicate,hlen.out];omega) (by intro u hu;rw[(List.mem_replicate.1 hu).2];rfl) w.heap.size w (by exact hb.drew) nL ?_;intro w3 hg3 hb3)
   all_goals
    go_simp;go_wp2;go_roundw
    case rel=>
     have hl0:k+(List.replicate m (Value.int .i64 v)).length<=cur.length:=by rw[List.length_replicate,hlen.out];omega
     refine⟨k+m,splice cur k (List.replicate m (Value.int .i64 v)),by omega,by omega,by simp,hg3,?_,?_,hb3⟩
     ·show _=_
      rw[length_splice _ _ _ hl0];exact hlen.out
     ·have:=splice_get hl0 hall.out (fun x hx=>(List.mem_replicate.1 hx).2);rw[List.length_replicate] at this;exact this
    case measure=>simp[intOf];omega
  ·have hkn2:k=n:=by omega
   subst hkn2;go_wp2;go_ret
   refine⟨w.heap.size,rfl,Nat.le_refl _,⟨cur.toArray,hg.out,by rw[List.size_toArray];exact hlen.out,by simp,fun j hj=>?_⟩,hb⟩;rw[List.length_replicate] at hj;rw[List.getElem?_toArray,hall.out j hj,List.getElem_replicate]
theorem ee(op a:Int)(pc:Nat):(nextB op a pc).length<=2:=by
 unfold nextB;split
 ·simp
 ·split
  ·simp
  ·split<;>simp
theorem cO(a1 a2:Option Addr)(nt c1 c2:Nat)(fs:List Fn)(f:Nat)(w:World)(hf:f<fs.length)(hn:fs.length<=1048576)(hm:FnsAt w 0 a2 fs)(F:Fine fs fs[f].code) :
  Calls Tryz.prog 83 #[.agg #[.slice a1 nt c1,.slice a2 fs.length c2],.int .i64 f] w fun e w'=>∃g cap d,e=.returned (.slice (some ⟨g,0,none⟩) fs[f].code.length cap)/\w.heap.size<=g/\Done fs fs[f].code d/\Ht w' g cap d/\Below w.heap.size w w':=by
 obtain⟨i0,hi,hz0,hz1,hz2⟩:=info_parts info3;have hone:=F.one;have hmost:=F.most;obtain⟨b,off,ca,cc,rfl,-,d1,d2,d3,d4⟩:=hm f hf;have hbA:Below w.heap.size w (w.alloc (.cells #[.slice a1 nt c1,.slice (some ⟨b,off,none⟩) fs.length c2] 42)):=gM.alloc nL _;have hM0:=ah w #[.slice a1 nt c1,.slice (some ⟨b,off,none⟩) fs.length c2] 42;have d3':=cell_later hbA d3;have hE0:((w.alloc (.cells #[.slice a1 nt c1,.slice (some ⟨b,off,none⟩) fs.length c2] 42)).alloc (.cells #[] 3)).ownsRow (w.heap.size+1) 3 1 (.slice (some ⟨w.heap.size+1,0,none⟩) 0 0) 0 []:=by
  have:=World.ownsRow_made (base:=w.heap.size+1) (e:=3) (size:=1) (w.alloc (.cells #[.slice a1 nt c1,.slice (some ⟨b,off,none⟩) fs.length c2] 42)) #[] 0 (by simp) (by unfold maxLen;omega) rfl;rw[World.size_alloc] at this;simpa using this
 have hbE:Below w.heap.size w ((w.alloc (.cells #[.slice a1 nt c1,.slice (some ⟨b,off,none⟩) fs.length c2] 42)).alloc (.cells #[] 3)):=hbA.alloc (by simp) _;have hME:=al hM0 (.cells #[] 3);clear d1 d2 d3;obtain⟨code,hcode⟩:∃code,code=fs[f].code:=⟨_,rfl⟩;rw[<-hcode] at F d3' d4 hone hmost ⊢;clear hcode;go_enter Tryz.func83,Tryz.ntmps83
 go_wp2;go_loopw [6,7] (fun o i wr=>∃(k:Nat),k<=code.length/\i=.int .i64 k/\wr.ownsRow (w.heap.size+1) 3 1 o k ((List.replicate k (-1)).map (Value.int .i64))/\wr.heap[w.heap.size]?=some (.cells #[.slice a1 nt c1,.slice (some ⟨b,off,none⟩) fs.length c2] 42 (0,0))/\Below w.heap.size w wr) (fun _ i _=>code.length-(intOf i).toNat)
 case atStart=>exact⟨0,by omega,rfl,hE0,hME,hbE⟩
 case round=>
  obtain⟨k,hk,rfl,hown,hM,hb⟩:=hrel;clear hE0 hME hbE hbA hM0 d3';by_cases hlt:k<code.length
  ·have hszr:=aq hM;go_wp2_with (first | (at_builtin;refine wpList_append_lies _ rfl _ _ 148 rfl (w.heap.size+1) 3 i0 (.int .i64 0) 1 8 Tryz.underlying148 hi hz0 hz1 hz2 rfl (by decide) _ _ _ rfl (World.ownsRow.alloc hown _) ⟨wr.heap.size,0,none⟩ 1 1 [.int .i64 (-1)] rfl rfl (cell_one_new _ _ _) (by intro u hu;simp at hu;subst hu;rfl) (by decide) (by unfold maxLen;omega) (by omega) (by simp;omega) _ rfl ?_;intro g cap w1 hown1 hgrow1 hat1 hlt1))
   have hk1:=dQ.grown (ts:=[3]) (World.ownsRow.alloc hown _) hgrow1 (by simp);have hM1:=hk1.cell (al hM _) (by simp);have hb1:Below w.heap.size w w1:=(hb.alloc hb.size _).trans ((hk1.toBelow (by simp;omega)).mono (by omega));go_roundw
   case rel=>exact⟨k+1,by omega,by go_num,by simpa[List.replicate_succ'] using hown1,hM1,hb1⟩
   case measure=>simp[intOf];omega
  ·have hkn:k=code.length:=by omega
   subst hkn;obtain⟨g,cap,rfl,hg,hH⟩:=Ht.own (d:=List.replicate code.length (-1)) hown rfl (by simp) (by omega);have hcl:=hH.cell (j:=0) (by simp;omega);have hfz:=hH.free 0;clear hown hlt;go_wp2;have hH1:Ht (wr.setCell ⟨g,0,none⟩ (.int .i64 0)) g cap (br fs code 0):=hH.set (j:=0) (by simp;omega) 0;have hM1:(wr.setCell ⟨g,0,none⟩ (.int .i64 0)).heap[w.heap.size]?=some (.cells #[.slice a1 nt c1,.slice (some ⟨b,off,none⟩) fs.length c2] 42 (0,0)):=by rw[Below.heap_setCell _ _ _ _ (by simp;omega)];exact hM
   have hb1:Below w.heap.size w (wr.setCell ⟨g,0,none⟩ (.int .i64 0)):=hb.setCell (by simp;omega) _;clear hH hcl hfz hM hb hk;go_loopg [8] (code.length+2) (fun gk ag wo=>∃(j:Nat) (bb:Bool),ag=.bool bb/\(bb=true->negs (br fs code j)+1<=gk)/\(bb=false->cU fs code (br fs code j)=br fs code j)/\Ht wo g cap (br fs code j)/\wo.heap[w.heap.size]?=some (.cells #[.slice a1 nt c1,.slice (some ⟨b,off,none⟩) fs.length c2] 42 (0,0))/\Below w.heap.size w wo)
   case atStart=>exact⟨0,true,rfl,fun _=>(by have:=init_negs hone;show negs (fK code.length)+1<=_;omega),fun h=>(by cases h),hH1,hM1,hb1⟩
   case round=>
    obtain⟨j,bb,rfl,hN,hD,hH,hM,hb⟩:=hrel;clear hH1 hM1 hb1
    cases bb with
    | false=>
     have hD':=hD rfl;have HD:Hid (cU fs code (br fs code j)=br fs code j):=hD';clear hD hD' hN;go_wp2;go_ret
     exact⟨g,cap,br fs code j,rfl,by omega,⟨⟨j,rfl⟩,HD.out⟩,hH,hb⟩
    | true=>
     have hN':=hN rfl;clear hN hD;have H0:=dM F j;obtain⟨h0,hh0⟩:∃h0,h0=br fs code j:=⟨_,rfl⟩;have HH:Hid (h0=br fs code j):=hh0;rw[<-hh0] at hN' H0 hH;clear hh0;go_wp2;go_loopw [8,9] (fun ag i wi=>∃(pc:Nat) (bb:Bool),pc<=code.length/\i=.int .i64 pc/\ag=.bool bb/\(bb=true->negs (bk fs code pc h0)<negs h0)/\(bb=false->bk fs code pc h0=h0)/\Ht wi g cap (bk fs code pc h0)/\wi.heap[w.heap.size]?=some (.cells #[.slice a1 nt c1,.slice (some ⟨b,off,none⟩) fs.length c2] 42 (0,0))/\Below w.heap.size w wi) (fun _ i _=>code.length-(intOf i).toNat)
     case atStart=>exact⟨0,false,by omega,rfl,rfl,fun h=>(by cases h),fun _=>rfl,hH,hM,hb⟩
     case round=>
      obtain⟨pc,bb,hpc,rfl,rfl,hT,hFa,hH1,hM1,hb1⟩:=hrel;obtain⟨wi,rfl⟩:∃wi,wi=wr:=⟨_,rfl⟩;clear hH hM hb;by_cases hlt:pc<code.length
      ·have HT:Hid (bb=true->negs (bk fs code pc h0)<negs h0):=hT;have HFa:Hid (bb=false->bk fs code pc h0=h0):=hFa;have P1:=(du F H0 pc hpc).1;have HP:Hid (bk fs code (pc+1) h0=dI fs code[pc] pc (bk fs code pc h0)):=part_succ hlt h0;clear hT hFa;obtain⟨h1,hh1⟩:∃h1,h1=bk fs code pc h0:=⟨_,rfl⟩;rw[<-hh1] at HT HFa P1 HP hH1;clear hh1;have hlen:pc<h1.length:=by rw[P1.len];exact hlt
       have HZ:Hid (h1.getD pc (-1)=h1[pc]):=P1.get hlt;have z0:=P1.low pc hlen;have z1:=P1.high pc hlen;have hcl:=hH1.cell hlen;obtain⟨cb,co,rfl,-,e1,e2⟩:=d4 pc hlt;have e1':=cell_later hb1 e1;have e2':=cell_later hb1 e2;have y1:=aa hM1;obtain⟨u0,u1,u2,u3⟩:=di F.params code[pc].1 code[pc].2;clear e1 e2;go_wp2
       go_region_held3 (fun w'=>w'.cell? ⟨w.heap.size,0,none⟩=some (.slice a1 nt c1)/\w'.cell? ⟨w.heap.size,1,none⟩=some (.slice (some ⟨b,off,none⟩) fs.length c2)/\w'.cell? ⟨cb,co+pc*2,none⟩=some (.int .i64 code[pc].1)/\w'.cell? ⟨cb,co+pc*2+1,none⟩=some (.int .i64 code[pc].2))
        (first | exact⟨(y1 0).trans rfl,(y1 1).trans rfl,e1',e2'⟩ | exact⟨ckb hM1 k6 rfl,ckb hM1 k6 rfl,cell_later k6 e1',cell_later k6 e2'⟩)
        (first | (go_at_call 84;refine (sUses_any _ _ _ _ _ fs code[pc].1 code[pc].2 _ hn (by exact hm.mono hb1.drew)).mono ?_;rintro e w4 ⟨rfl,k6d⟩;have k6:=bt k6d))
       have hM2:=ab hM1 k6;have hH2:=hH1.mono k6;have hb2:Below w.heap.size w w4:=hb1.trans (k6.mono hb1.size);have hcl2:=hH2.cell hlen;have e12:=cell_later k6 e1';have e22:=cell_later k6 e2';clear hM1 hH1 hb1 hcl y1 e1' e2' k6 k6d;by_cases hfit:h1[pc]<(aG fs code[pc].1 code[pc].2).1\/16<h1[pc]-(aG fs code[pc].1 code[pc].2).1+(aG fs code[pc].1 code[pc].2).2
       ·have HS:Hid (bk fs code (pc+1) h0=h1):=by show _=_;rw[HP.out];exact stepB_no HZ.out rfl rfl hfit
        have hH3:Ht w4 g cap (bk fs code (pc+1) h0):=by rw[HS.out];exact hH2
        rcases (show h1[pc]<(aG fs code[pc].1 code[pc].2).1\/((aG fs code[pc].1 code[pc].2).1<=h1[pc]/\16<h1[pc]-(aG fs code[pc].1 code[pc].2).1+(aG fs code[pc].1 code[pc].2).2) by omega) with hx | ⟨hx,hy⟩
        all_goals
         clear hfit;go_wp2;go_roundw
         case rel=>exact⟨pc+1,bb,by omega,by go_num,rfl,fun h=>(by rw[HS.out];exact HT.out h),fun h=>(by rw[HS.out];exact HFa.out h),hH3,hM2,hb2⟩
         case measure=>simp[intOf];omega
       ·obtain⟨left,hleft⟩:∃left,left=h1[pc]-(aG fs code[pc].1 code[pc].2).1+(aG fs code[pc].1 code[pc].2).2:=⟨_,rfl⟩;have HL:Hid (left=h1[pc]-(aG fs code[pc].1 code[pc].2).1+(aG fs code[pc].1 code[pc].2).2):=hleft;have hx:(aG fs code[pc].1 code[pc].2).1<=h1[pc]:=by omega
        have hy:h1[pc]-(aG fs code[pc].1 code[pc].2).1+(aG fs code[pc].1 code[pc].2).2<=16:=by omega
        have l0:0<=left:=by omega
        have l1:left<=16:=by omega
        have HS:Hid (bk fs code (pc+1) h0=(nextB code[pc].1 code[pc].2 pc).foldl (layB left) h1):=by show _=_;rw[HP.out,hleft];exact stepB_yes HZ.out rfl rfl hfit
        have hnx:=eV F hlt;clear hfit hleft;go_wp2_with fail
        rw[<-HL.out];refine (sNext_any code[pc].1 code[pc].2 pc _ (by omega)).mono ?_;rintro e w5 ⟨ad,ncap,rfl,hI,k7⟩;have hM3:=ab hM2 k7;have hH3:=hH2.mono k7;have hb3:Below w.heap.size w w5:=hb2.trans (k7.mono hb2.size);have hglt:=hH2.lt;obtain⟨nx,hnxe⟩:∃nx,nx=nextB code[pc].1 code[pc].2 pc:=⟨_,rfl⟩;rw[<-hnxe] at hI hnx HS ⊢;have hnl:nx.length<=2:=by rw[hnxe];exact ee _ _ _
        clear hM2 hH2 hb2 k7 hcl2 e12 e22 hnxe;go_wp2;go_loopw [8,14] (fun ag i ws=>∃(q:Nat) (bb:Bool) (cur:List Int),q<=nx.length/\i=.int .i64 q/\ag=.bool bb/\Hid (cur=(nx.take q).foldl (layB left) h1)/\Hid (bb=true->negs cur<negs h0)/\Hid (bb=false->cur=h0)/\Hts code.length cur/\Ht ws g cap cur/\bM ws w4.heap.size ad nx/\ws.heap[w.heap.size]?=some (.cells #[.slice a1 nt c1,.slice (some ⟨b,off,none⟩) fs.length c2] 42 (0,0))/\Below w.heap.size w ws) (fun _ i _=>nx.length-(intOf i).toNat)
        case atStart=>exact⟨0,bb,h1,by omega,rfl,rfl,rfl,HT.out,HFa.out,P1,hH3,hI,hM3,hb3⟩
        case round=>
         obtain⟨q,b4,cur,hq,rfl,rfl,hcur,hT4,hF4,P4,hH4,hI4,hM4,hb4⟩:=hrel;obtain⟨ws,rfl⟩:∃ws,ws=wr:=⟨_,rfl⟩;clear hH3 hI hM3 hb3;by_cases hlq:q<nx.length
         ·obtain⟨v0,v1⟩:=hnx nx[q] (n_l hlq);obtain⟨nb,no,rfl,hnb,m1⟩:=hI4 q hlq;obtain⟨nk,hnk⟩:∃nk:Nat,nx[q]=(nk:Int):=⟨nx[q].toNat,by omega⟩;rw[hnk] at m1;have HK:Hid (cur=(nx.take q).foldl (layB left) h1):=hcur;have HN:Hid ((nx.take (q+1)).foldl (layB left) h1=layB left cur nk):=by show _=_;rw[fold_take hlq,<-hcur.out,hnk]
          clear hcur;by_cases hin:nk<code.length
          ·have hkl:nk<cur.length:=by rw[P4.len];exact hin
           have m2:=hH4.cell hkl;have m3:=hH4.free nk;have hget:cur.getD ((nk:Int)).toNat (-1)=cur[nk]:=by rw[Int.toNat_natCast];exact P4.get hin
           have hin':(nk:Int)<(code.length:Int):=by omega
           rcases ez (h:=cur) (left:=left) (nx:=(nk:Int)) l0 (by omega) with ⟨hsame,hno⟩ | ⟨-,hneg,hset,hless⟩
           ·have hnn:0<=cur[nk]:=by
             rw[hget,P4.len] at hno;omega
            have HN2:Hid (cur=(nx.take (q+1)).foldl (layB left) h1):=by show _=_;rw[HN.out,hsame]
            clear hsame hno hget hnk;go_wp2;go_roundw
            case rel=>exact⟨q+1,b4,cur,by omega,by go_num,rfl,HN2,hT4,hF4,P4,hH4,hI4,hM4,hb4⟩
            case measure=>simp[intOf];omega
           ·have hnn:cur[nk]<0:=by rw[hget] at hneg;exact hneg
            have HN2:Hid (cur.set nk left=(nx.take (q+1)).foldl (layB left) h1):=by show _=_;rw[HN.out,hset,Int.toNat_natCast]
            have P5:Hts code.length (cur.set nk left):=by have:=eX (nx:=(nk:Int)) P4 l0 l1;rw[hset,Int.toNat_natCast] at this;exact this
            have HT5:Hid (negs (cur.set nk left)<negs h0):=by
             show _<_
             rw[hset,Int.toNat_natCast] at hless
             cases b4 with
             | true=>have:=hT4.out rfl;omega
             | false=>have:=hF4.out rfl;rw[this] at hless ⊢;omega
            have hH5:=hH4.set hkl left;have hI5:=hI4.above ((aL.refl _ _).setCell (p:=⟨g,nk,none⟩) hglt (.int .i64 left));have hM5:(ws.setCell ⟨g,nk,none⟩ (.int .i64 left)).heap[w.heap.size]?=some (.cells #[.slice a1 nt c1,.slice (some ⟨b,off,none⟩) fs.length c2] 42 (0,0)):=by rw[Below.heap_setCell _ _ _ _ (by simp;omega)];exact hM4
            have hb5:Below w.heap.size w (ws.setCell ⟨g,nk,none⟩ (.int .i64 left)):=hb4.setCell (by simp;omega) _;clear hset hless hneg hget hnk;go_wp2;go_roundw
            case rel=>exact⟨q+1,true,cur.set nk left,by omega,by go_num,rfl,HN2,fun _=>HT5.out,fun h=>(by cases h),P5,hH5,hI5,hM5,hb5⟩
            case measure=>simp[intOf];omega
          ·have hout:(code.length:Int)<=(nk:Int):=by omega
           have HN2:Hid (cur=(nx.take (q+1)).foldl (layB left) h1):=by
            show _=_
            rw[HN.out];unfold layB;rw[if_neg (by rw[P4.len];omega)]
           clear hnk;go_wp2;go_roundw
           case rel=>exact⟨q+1,b4,cur,by omega,by go_num,rfl,HN2,hT4,hF4,P4,hH4,hI4,hM4,hb4⟩
           case measure=>simp[intOf];omega
         ·have HC:Hid (cur=bk fs code (pc+1) h0):=by
           show _=_
           rw[HS.out,hcur.out,List.take_of_length_le (by omega)]
          clear hcur;go_wp2;go_roundw
          case rel=>exact⟨pc+1,b4,by omega,by go_num,rfl,fun h=>(by rw[<-HC.out];exact hT4.out h),fun h=>(by rw[<-HC.out];exact hF4.out h),by rw[<-HC.out];exact hH4,hM4,hb4⟩
          case measure=>simp[intOf];omega
      ·have hpn:pc=code.length:=by omega
       subst hpn;have HT:Hid (bb=true->negs (bk fs code code.length h0)<negs h0):=hT;have HFa:Hid (bb=false->bk fs code code.length h0=h0):=hFa;clear hT hFa;go_wp2;go_roundg (gk-1)
       case measure=>omega
       case rel=>
        have he:br fs code (j+1)=bk fs code code.length h0:=by rw[HH.out];rfl
        refine⟨j+1,bb,rfl,fun h=>?_,fun h=>?_,by rw[he];exact hH1,hM1,hb1⟩
        ·rw[he];have:=HT.out h;omega
        ·rw[he];have e3:=HFa.out h;have e4:cU fs code h0=h0:=e3;rw[e3,e4]
theorem cp.no{fs:List Fn}{op a z:Int}{e:Ending}(h:cp fs op a z e)(hc:z<(aG fs op a).1\/16<z-(aG fs op a).1+(aG fs op a).2):∃q,e=.returned (.tuple #[.int .i64 q,.bool false]):=by
 unfold cp at h;rwa [if_pos hc] at h
theorem cp.yes{fs:List Fn}{op a z:Int}{e:Ending}(h:cp fs op a z e)(hc:¬(z<(aG fs op a).1\/16<z-(aG fs op a).1+(aG fs op a).2)):e=.returned (.tuple #[.int .i64 (z-(aG fs op a).1+(aG fs op a).2),.bool true]):=by
 unfold cp at h;rwa [if_neg hc] at h
theorem iHeights_any(a1 a2 ca:Option Addr)(nt c1 c2 cc:Nat)(fs:List Fn)(code:List (Int×Int))(w:World)(hm:FnsAt w 0 a2 fs)(d4:bi w 0 ca code)(F:Fine fs code) :
  Calls Tryz.prog 101 #[.agg #[.slice a1 nt c1,.slice a2 fs.length c2],.slice ca code.length cc] w fun e w'=>∃g d,e=.returned (.slice (some ⟨g,0,none⟩) code.length code.length)/\w.heap.size<=g/\Done fs code d/\Ht w' g code.length d/\Below w.heap.size w w':=by
 have hone:=F.one;have hmost:=F.most;have hbA:Below w.heap.size w (w.alloc (.cells #[.slice a1 nt c1,.slice a2 fs.length c2] 42)):=gM.alloc nL _;have hM0:=ah w #[.slice a1 nt c1,.slice a2 fs.length c2] 42;have hbB:Below w.heap.size w ((w.alloc (.cells #[.slice a1 nt c1,.slice a2 fs.length c2] 42)).alloc (.cells #[.int .i64 (-1)] 3)):=hbA.alloc (by simp) _;have hMB:=al hM0 (.cells #[.int .i64 (-1)] 3);have hX:=eP (w.alloc (.cells #[.slice a1 nt c1,.slice a2 fs.length c2] 42)) (w.heap.size+1) (by simp) (.int .i64 (-1)) 3 0 (.int .i64 (-1)) rfl;rw[fV] at hX;go_enter Tryz.func101,Tryz.ntmps101
 go_wp2;go_step3
 go_wp2_with fail
 refine (repeat_any (w.heap.size+1) code.length (-1) _ hone hmost hX).mono ?_;rintro e w1 ⟨g,rfl,hg,hH,hb⟩;have hM1:=ab hMB hb;have hb1:Below w.heap.size w w1:=hbB.trans (hb.mono (by simp;omega));have hg1:w.heap.size+1<=g:=by simp at hg;omega
 have hcl:=hH.cell (j:=0) (by simp;omega);have hfz:=hH.free 0;clear hbA hM0 hbB hMB hX hb hg;go_wp2;go_step3
 go_wp2;have hH1:Ht (w1.setCell ⟨g,0,none⟩ (.int .i64 0)) g code.length (br fs code 0):=hH.set (j:=0) (by simp;omega) 0;have hM2:(w1.setCell ⟨g,0,none⟩ (.int .i64 0)).heap[w.heap.size]?=some (.cells #[.slice a1 nt c1,.slice a2 fs.length c2] 42 (0,0)):=by rw[Below.heap_setCell _ _ _ _ (by simp;omega)];exact hM1
 have hb2:Below w.heap.size w (w1.setCell ⟨g,0,none⟩ (.int .i64 0)):=hb1.setCell (by simp;omega) _;have hN0:negs (br fs code 0)=code.length-1:=init_negs hone;have HN0:Hid (negs (br fs code 0)=code.length-1):=hN0;clear hN0 hH hcl hfz hM1 hb1;go_loopw [6] (fun mi wo=>∃(j:Nat),mi=.int .i64 (negs (br fs code j):Nat)/\Ht wo g code.length (br fs code j)/\wo.heap[w.heap.size]?=some (.cells #[.slice a1 nt c1,.slice a2 fs.length c2] 42 (0,0))/\Below w.heap.size w wo) (fun mi _=>(intOf mi).toNat)
 case atStart=>exact⟨0,by rw[HN0.out];congr 1;omega,hH1,hM2,hb2⟩
 case round=>
  obtain⟨j,rfl,hH,hM,hb⟩:=hrel;clear hH1 hM2 hb2 HN0;have H0:=dM F j;have hle:negs (br fs code j)<=code.length:=by
   have h1:negs (br fs code j)<=(br fs code j).length:=List.countP_le_length;rw[H0.len] at h1;exact h1
  obtain⟨h0,hh0⟩:∃h0,h0=br fs code j:=⟨_,rfl⟩;have HH:Hid (h0=br fs code j):=hh0;rw[<-hh0] at H0 hH hle ⊢;clear hh0;obtain⟨N,hN⟩:∃N,N=negs h0:=⟨_,rfl⟩;have HNN:Hid (N=negs h0):=hN;rw[<-hN] at hle ⊢;clear hN;go_wp2;go_loopw [6,26] (fun mi i wi=>∃(pc:Nat) (M:Nat),pc<=code.length/\i=.int .i64 pc/\mi=.int .i64 M/\Hid (M=negs (bk fs code pc h0))/\M<=N/\Ht wi g code.length (bk fs code pc h0)/\wi.heap[w.heap.size]?=some (.cells #[.slice a1 nt c1,.slice a2 fs.length c2] 42 (0,0))/\Below w.heap.size w wi) (fun _ i _=>code.length-(intOf i).toNat)
  case atStart=>exact⟨0,N,by omega,rfl,rfl,HNN.out,by omega,hH,hM,hb⟩
  case round=>
   obtain⟨pc,M,hpc,rfl,rfl,hMN,hMle,hH1,hM1,hb1⟩:=hrel;obtain⟨wi,rfl⟩:∃wi,wi=wr:=⟨_,rfl⟩;clear hH hM hb;by_cases hlt:pc<code.length
   ·have P1:=(du F H0 pc hpc).1;have HP:Hid (bk fs code (pc+1) h0=dI fs code[pc] pc (bk fs code pc h0)):=part_succ hlt h0;obtain⟨h1,hh1⟩:∃h1,h1=bk fs code pc h0:=⟨_,rfl⟩;rw[<-hh1] at hMN P1 HP hH1;clear hh1;have hlen:pc<h1.length:=by rw[P1.len];exact hlt
    have HZ:Hid (h1.getD pc (-1)=h1[pc]):=P1.get hlt;have z0:=P1.low pc hlen;have z1:=P1.high pc hlen;obtain⟨cb,co,rfl,-,e1,e2⟩:=d4 pc hlt;have e1':=cell_later hb1 e1;have e2':=cell_later hb1 e2;obtain⟨u0,u1,u2,u3⟩:=di F.params code[pc].1 code[pc].2;clear e1 e2;obtain⟨wx,hwx⟩:∃wx,wx=wi.alloc (.cells #[.int .i64 code[pc].1,.int .i64 code[pc].2] 153):=⟨_,rfl⟩;have hkx:Below wi.heap.size wi wx:=by rw[hwx];exact gM.alloc nL _
    have hXx:wx.heap[wi.heap.size]?=some (.cells #[.int .i64 code[pc].1,.int .i64 code[pc].2] 153 (0,0)):=by rw[hwx];exact ah _ _ _
    have hMx:=ab hM1 hkx;have hHx:=hH1.mono hkx;have hbx:Below w.heap.size w wx:=hb1.trans (hkx.mono hb1.size);have HWX:Hid (wx=wi.alloc (.cells #[.int .i64 code[pc].1,.int .i64 code[pc].2] 153)):=hwx;clear hwx hkx;by_cases hfit:h1[pc]<(aG fs code[pc].1 code[pc].2).1\/16<h1[pc]-(aG fs code[pc].1 code[pc].2).1+(aG fs code[pc].1 code[pc].2).2
    ·have HS:Hid (bk fs code (pc+1) h0=h1):=by show _=_;rw[HP.out];exact stepB_no HZ.out rfl rfl hfit
     have HF:Hid (h1[pc]<(aG fs code[pc].1 code[pc].2).1\/16<h1[pc]-(aG fs code[pc].1 code[pc].2).1+(aG fs code[pc].1 code[pc].2).2):=hfit;clear hfit;go_wp2;rw[<-HWX.out];have hcl:=hHx.cell hlen;have y1:=aa hMx;have v1:=aa hXx
     go_region_held3 (fun w'=>w'.cell? ⟨w.heap.size,0,none⟩=some (.slice a1 nt c1)/\w'.cell? ⟨w.heap.size,1,none⟩=some (.slice a2 fs.length c2)/\w'.cell? ⟨wi.heap.size,0,none⟩=some (.int .i64 code[pc].1)/\w'.cell? ⟨wi.heap.size,1,none⟩=some (.int .i64 code[pc].2)/\w'.cell? ⟨g,pc,none⟩=some (.int .i64 h1[pc]))
      (first | exact⟨(y1 0).trans rfl,(y1 1).trans rfl,(v1 0).trans rfl,(v1 1).trans rfl,hcl⟩ | exact⟨ckb hMx k6 rfl,ckb hMx k6 rfl,ckb hXx k6 rfl,ckb hXx k6 rfl,cell_later k6 hcl⟩)
      (first | (go_at_call 147;refine (dL _ _ _ _ _ fs code[pc].1 code[pc].2 h1[pc] _ (by exact hm.mono hbx.drew) F.params (by exact z0) (by exact z1)).mono ?_;rintro e w4 ⟨hL,k6d⟩;have k6:=bt k6d;obtain⟨qq,rfl⟩:=hL.no HF.out))
     have hM2:=ab hMx k6;have hH2:Ht w4 g code.length (bk fs code (pc+1) h0):=by rw[HS.out];exact hHx.mono k6
     have hb2:Below w.heap.size w w4:=hbx.trans (k6.mono hbx.size);clear hMx hHx hbx hcl y1 v1 k6 k6d hXx;go_wp2;go_roundw
     case rel=>exact⟨pc+1,M,by omega,by go_num,rfl,by rw[HS.out];exact hMN,hMle,hH2,hM2,hb2⟩
     case measure=>simp[intOf];omega
    ·obtain⟨left,hleft⟩:∃left,left=h1[pc]-(aG fs code[pc].1 code[pc].2).1+(aG fs code[pc].1 code[pc].2).2:=⟨_,rfl⟩;have HL:Hid (left=h1[pc]-(aG fs code[pc].1 code[pc].2).1+(aG fs code[pc].1 code[pc].2).2):=hleft;have l0:0<=left:=by omega
     have l1:left<=16:=by omega
     have HS:Hid (bk fs code (pc+1) h0=(nextB code[pc].1 code[pc].2 pc).foldl (layB left) h1):=by show _=_;rw[HP.out,hleft];exact stepB_yes HZ.out rfl rfl hfit
     have HF:Hid (¬(h1[pc]<(aG fs code[pc].1 code[pc].2).1\/16<h1[pc]-(aG fs code[pc].1 code[pc].2).1+(aG fs code[pc].1 code[pc].2).2)):=hfit;have hnx:=eV F hlt;clear hfit hleft;go_wp2;rw[<-HWX.out];have hcl:=hHx.cell hlen;have y1:=aa hMx;have v1:=aa hXx
     go_region_held3 (fun w'=>w'.cell? ⟨w.heap.size,0,none⟩=some (.slice a1 nt c1)/\w'.cell? ⟨w.heap.size,1,none⟩=some (.slice a2 fs.length c2)/\w'.cell? ⟨wi.heap.size,0,none⟩=some (.int .i64 code[pc].1)/\w'.cell? ⟨wi.heap.size,1,none⟩=some (.int .i64 code[pc].2)/\w'.cell? ⟨g,pc,none⟩=some (.int .i64 h1[pc]))
      (first | exact⟨(y1 0).trans rfl,(y1 1).trans rfl,(v1 0).trans rfl,(v1 1).trans rfl,hcl⟩ | exact⟨ckb hMx k6 rfl,ckb hMx k6 rfl,ckb hXx k6 rfl,ckb hXx k6 rfl,cell_later k6 hcl⟩)
      (first | (go_at_call 147;refine (dL _ _ _ _ _ fs code[pc].1 code[pc].2 h1[pc] _ (by exact hm.mono hbx.drew) F.params (by exact z0) (by exact z1)).mono ?_;rintro e w4 ⟨hL,k6d⟩;have k6:=bt k6d;obtain rfl:=hL.yes HF.out;rw[<-HL.out]))
     have hM2:=ab hMx k6;have hX2:=ab hXx k6;have hH2:=hHx.mono k6;have hb2:Below w.heap.size w w4:=hbx.trans (k6.mono hbx.size);have v2:=aa hX2;clear hMx hHx hbx hcl y1 v1 k6 k6d hXx;go_wp2_with fail
     refine (iNext_any code[pc].1 code[pc].2 pc _ (by omega)).mono ?_;rintro e w5 ⟨ad,ncap,rfl,hI,k7⟩;have hM3:=ab hM2 k7;have hH3:=hH2.mono k7;have hb3:Below w.heap.size w w5:=hb2.trans (k7.mono hb2.size);have hglt:=hH2.lt;obtain⟨nx,hnxe⟩:∃nx,nx=nextB code[pc].1 code[pc].2 pc:=⟨_,rfl⟩;rw[<-hnxe] at hI hnx HS ⊢;have hnl:nx.length<=2:=by rw[hnxe];exact ee _ _ _
     clear hM2 hH2 hb2 k7 hX2 v2 hnxe;go_wp2;go_loopw [6,47] (fun mi i ws=>∃(q M4:Nat) (cur:List Int),q<=nx.length/\i=.int .i64 q/\mi=.int .i64 M4/\Hid (cur=(nx.take q).foldl (layB left) h1)/\Hid (M4=negs cur)/\M4<=N/\Hts code.length cur/\Ht ws g code.length cur/\bM ws w4.heap.size ad nx/\ws.heap[w.heap.size]?=some (.cells #[.slice a1 nt c1,.slice a2 fs.length c2] 42 (0,0))/\Below w.heap.size w ws) (fun _ i _=>nx.length-(intOf i).toNat)
     case atStart=>exact⟨0,M,h1,by omega,rfl,rfl,rfl,hMN,hMle,P1,hH3,hI,hM3,hb3⟩
     case round=>
      obtain⟨q,M4,cur,hq,rfl,rfl,hcur,hM4n,hM4le,P4,hH4,hI4,hM4,hb4⟩:=hrel;obtain⟨ws,rfl⟩:∃ws,ws=wr:=⟨_,rfl⟩;clear hH3 hI hM3 hb3;by_cases hlq:q<nx.length
      ·obtain⟨v0,v1⟩:=hnx nx[q] (n_l hlq);obtain⟨nb,no,rfl,hnb,m1⟩:=hI4 q hlq;obtain⟨nk,hnk⟩:∃nk:Nat,nx[q]=(nk:Int):=⟨nx[q].toNat,by omega⟩;rw[hnk] at m1;have HN:Hid ((nx.take (q+1)).foldl (layB left) h1=layB left cur nk):=by show _=_;rw[fold_take hlq,<-hcur.out,hnk]
       clear hcur;by_cases hin:nk<code.length
       ·have hkl:nk<cur.length:=by rw[P4.len];exact hin
        have m2:=hH4.cell hkl;have m3:=hH4.free nk;have hget:cur.getD ((nk:Int)).toNat (-1)=cur[nk]:=by rw[Int.toNat_natCast];exact P4.get hin
        have bne:((nk:Int) == (code.length:Int))=false:=by rw[beq_eq_false_iff_ne];omega
        rcases ez (h:=cur) (left:=left) (nx:=(nk:Int)) l0 (by omega) with ⟨hsame,hno⟩ | ⟨-,hneg,hset,hless⟩
        ·have hnn:0<=cur[nk]:=by
          rw[hget,P4.len] at hno;omega
         have bn1:(cur[nk] != -1)=true:=by rw[bne_iff_ne];omega
         have HN2:Hid (cur=(nx.take (q+1)).foldl (layB left) h1):=by show _=_;rw[HN.out,hsame]
         clear hsame hno hget hnk;go_wp2;go_roundw
         case rel=>exact⟨q+1,M4,cur,by omega,by go_num,rfl,HN2,hM4n,hM4le,P4,hH4,hI4,hM4,hb4⟩
         case measure=>simp[intOf];omega
        ·have hnn:cur[nk]=-1:=by rw[hget] at hneg;have:=P4.low nk hkl;omega
         rw[hnn] at m2;have HN2:Hid (cur.set nk left=(nx.take (q+1)).foldl (layB left) h1):=by show _=_;rw[HN.out,hset,Int.toNat_natCast]
         have P5:Hts code.length (cur.set nk left):=by have:=eX (nx:=(nk:Int)) P4 l0 l1;rw[hset,Int.toNat_natCast] at this;exact this
         have hM1':1<=M4:=by rw[hM4n.out];omega
         have HT5:Hid (M4-1=negs (cur.set nk left)):=by
          show _=_
          rw[hset,Int.toNat_natCast] at hless;rw[hM4n.out];omega
         have hH5:=hH4.set hkl left;have hI5:=hI4.above ((aL.refl _ _).setCell (p:=⟨g,nk,none⟩) hglt (.int .i64 left));have hM5:(ws.setCell ⟨g,nk,none⟩ (.int .i64 left)).heap[w.heap.size]?=some (.cells #[.slice a1 nt c1,.slice a2 fs.length c2] 42 (0,0)):=by rw[Below.heap_setCell _ _ _ _ (by simp;omega)];exact hM4
         have hb5:Below w.heap.size w (ws.setCell ⟨g,nk,none⟩ (.int .i64 left)):=hb4.setCell (by simp;omega) _;clear hset hless hneg hget hnk hnn;go_wp2;go_roundw
         case rel=>exact⟨q+1,M4-1,cur.set nk left,by omega,by go_num,by congr 1;omega,HN2,HT5,by omega,P5,hH5,hI5,hM5,hb5⟩
         case measure=>simp[intOf];omega
       ·have bne:((nk:Int) == (code.length:Int))=true:=by rw[beq_iff_eq];omega
        have HN2:Hid (cur=(nx.take (q+1)).foldl (layB left) h1):=by
         show _=_
         rw[HN.out];unfold layB;rw[if_neg (by rw[P4.len];omega)]
        clear hnk;go_wp2;go_roundw
        case rel=>exact⟨q+1,M4,cur,by omega,by go_num,rfl,HN2,hM4n,hM4le,P4,hH4,hI4,hM4,hb4⟩
        case measure=>simp[intOf];omega
      ·have HC:Hid (cur=bk fs code (pc+1) h0):=by
        show _=_
        rw[HS.out,hcur.out,List.take_of_length_le (by omega)]
       clear hcur;by_cases hz:M4=0
       ·subst hz;have hD:Done fs code (bk fs code (pc+1) h0):=by
         have e1:=HH.out;have e2:=hM4n.out;have e3:=HC.out;subst e1;exact done_full F (by omega) (by rw[<-e3];exact e2.symm)
        go_wp2;rw[Exit.noGoto_ret];go_ret
        exact⟨g,_,rfl,by omega,hD,by rw[<-HC.out];exact hH4,hb4⟩
       ·have bz:((M4:Int) == 0)=false:=by rw[beq_eq_false_iff_ne];omega
        go_wp2;go_roundw
        case rel=>exact⟨pc+1,M4,by omega,by go_num,rfl,by rw[<-HC.out];exact hM4n,hM4le,by rw[<-HC.out];exact hH4,hM4,hb4⟩
        case measure=>simp[intOf];omega
   ·have hpn:pc=code.length:=by omega
    subst hpn;by_cases hMM:M=N
    ·subst hMM;have hD:Done fs code (bk fs code code.length h0):=by
      have e1:=HH.out;have e2:=hMN.out;have e3:=HNN.out;subst e1;exact done_same F (by omega)
     go_wp2;rw[Exit.noGoto_ret];go_ret
     exact⟨g,_,rfl,by omega,hD,hH1,hb1⟩
    ·go_wp2;go_roundw
     case rel=>exact⟨j+1,by rw[hMN.out,HH.out];rfl,by rw[HH.out] at hH1;exact hH1,hM1,hb1⟩
     case measure=>simp[intOf];omega
theorem cy{ts:List ByteArray}{fs:List Fn}(h:modB ts fs=true){k:Nat}(hk:k<fs.length):Fine fs fs[k].code:=by
 unfold modB at h;simp only[Bool.and_eq_true,decide_eq_true_eq,List.all_eq_true] at h
 have hall:=h.2;have hf:∀f∈fs,fnB ts.length fs.length f=true:=hall;have hfn:∀f∈fs,(0<=f.params/\f.params<=6)/\1<=f.code.length/\f.code.length<=120/\∀x∈f.code,insB ts.length fs.length f.locals f.code.length x.1 x.2=true:=by
  intro f hm;have:=hf f hm;unfold fnB at this;simp only[Bool.and_eq_true,decide_eq_true_eq,List.all_eq_true] at this
  exact⟨⟨by omega,by omega⟩,by omega,by omega,this.2⟩
 have hkk:=hfn fs[k] (n_l hk);refine⟨fun f hm=>(hfn f hm).1,hkk.2.1,hkk.2.2.1,fun i hi hj=>?_⟩;have hx:=hkk.2.2.2 fs[k].code[i] (n_l hi);unfold insB at hx;rcases hj with e | e | e
 all_goals
  rw[e] at hx;simp at hx
  omega
def DSl (w:World)(base:Nat)(v:Value)(d:List Int):Prop:=(d=[]/\∃a cap,v=.slice a 0 cap)\/(∃g cap,v=.slice (some ⟨g,0,none⟩) d.length cap/\base<=g/\Ht w g cap d)
theorem DSl.form{w:World}{base:Nat}{v:Value}{d:List Int}(h:DSl w base v d):∃a cap,v=.slice a d.length cap/\bM w base a d:=by
 rcases h with ⟨rfl,a,cap,rfl⟩ | ⟨g,cap,rfl,hg,hH⟩
 ·exact⟨a,cap,rfl,fun i hi=>absurd hi (by simp)⟩
 ·exact⟨_,cap,rfl,hH.ints hg⟩
theorem DSl.low{w:World}{base base':Nat}{v:Value}{d:List Int}(h:DSl w base v d)(hl:base'<=base):DSl w base' v d:=by
 rcases h with h | ⟨g,cap,rfl,hg,hH⟩
 ·exact .inl h
 ·exact .inr ⟨g,cap,rfl,by omega,hH⟩
def VPost (ts:List ByteArray)(fs:List Fn)(c f a:Int):Prop:=(modB ts fs=false/\c=1/\f=0/\a=0)\/(modB ts fs=true/\Told fs c f a)
theorem VPost.one{ts:List ByteArray}{fs:List Fn}{c f a c' f' a':Int}(h:VPost ts fs c f a)(h':VPost ts fs c' f' a'):c=c'/\f=f'/\a=a':=by
 rcases h with ⟨h,rfl,rfl,rfl⟩ | ⟨h,ht⟩
 ·rcases h' with ⟨-,rfl,rfl,rfl⟩ | ⟨h',-⟩
  ·exact⟨rfl,rfl,rfl⟩
  ·rw[h] at h';cases h'
 ·rcases h' with ⟨h',-⟩ | ⟨-,ht'⟩
  ·rw[h] at h';cases h'
  ·exact ht.one ht'
theorem cn{fs:List Fn}{code:List (Int×Int)}{d:List Int}{k:Nat}(hD:Done fs code d)(h:∀j,j<k->aI fs code d j=0):fp fs code k:=fun e he j hj=>by
 obtain rfl:=hD.one he;exact h j hj
theorem bB{W:World}{R:Nat}{x y z:Int}(h:W.heap[R]?=some (.cells #[.int .i64 0,.int .i64 0,.int .i64 0] 95 (0,0))):(((W.setCell ⟨R,0,none⟩ (.int .i64 x)).setCell ⟨R,1,none⟩ (.int .i64 y)).setCell ⟨R,2,none⟩ (.int .i64 z)).heap[R]?=some (.cells #[.int .i64 x,.int .i64 y,.int .i64 z] 95 (0,0)):=by
 have:=ao (i:=2) (ao (i:=1) (ao (i:=0) h (.int .i64 x)) (.int .i64 y)) (.int .i64 z);simpa using this
def Hs (w:World)(base G k:Nat)(fs:List Fn):Prop:=base<=G/\∃cur:Array Value,w.heap[G]?=some (Obj.cells cur 148 (0,0))/\cur.size=fs.length /\
 ∀j (hj:j<fs.length),j<k->∃g d,cur[j]?=some (.slice (some ⟨g,0,none⟩) fs[j].code.length fs[j].code.length)/\base<=g/\Done fs fs[j].code d/\Ht w g fs[j].code.length d
theorem Hs.mono{w w':World}{base G k:Nat}{fs:List Fn}(h:Hs w base G k fs)(hb:Below w.heap.size w w'):Hs w' base G k fs:=by
 obtain⟨h0,cur,h1,h2,h3⟩:=h;refine⟨h0,cur,ab h1 hb,h2,fun j hj hk=>?_⟩;obtain⟨g,d,k1,k2,k3,k4⟩:=h3 j hj hk;exact⟨g,d,k1,k2,k3,k4.mono hb⟩
theorem Ht.other{w:World}{g cap G i:Nat}{d:List Int}{cur:Array Value}(h:Ht w g cap d)(hG:w.heap[G]?=some (Obj.cells cur 148 (0,0)))(v:Value):Ht (w.setCell ⟨G,i,none⟩ v) g cap d:=by
 obtain⟨c,h1,h2⟩:=h;have hne:g≠G:=by
  intro e;subst e;rw[h1] at hG;simp at hG
 exact⟨c,by rw[Below.heap_setCell _ _ _ _ hne];exact h1,h2⟩
theorem Hs.put{w:World}{base G k g:Nat}{fs:List Fn}{d:List Int}(h:Hs w base G k fs)(hk:k<fs.length)(hg:base<=g)(hD:Done fs fs[k].code d)(hH:Ht w g fs[k].code.length d) :
  Hs (w.setCell ⟨G,k,none⟩ (.slice (some ⟨g,0,none⟩) fs[k].code.length fs[k].code.length)) base G (k+1) fs:=by
 obtain⟨h0,cur,h1,h2,h3⟩:=h;refine⟨h0,_,ao h1 _,by simpa using h2,fun j hj hjk=>?_⟩;by_cases e:j=k
 ·subst e;exact⟨g,d,az _ (by omega),hg,hD,hH.other h1 _⟩
 ·obtain⟨g',d',k1,k2,k3,k4⟩:=h3 j hj (by omega);exact⟨g',d',by rw[ac _ e];exact k1,k2,k3,k4.other h1 _⟩
theorem Hs.at{w:World}{base G k:Nat}{fs:List Fn}(h:Hs w base G k fs){j:Nat}(hj:j<fs.length)(hk:j<k):∃g d,w.cell? ⟨G,j,none⟩=some (.slice (some ⟨g,0,none⟩) fs[j].code.length fs[j].code.length)/\Done fs fs[j].code d/\Ht w g fs[j].code.length d:=by
 obtain⟨-,cur,h1,h2,h3⟩:=h;obtain⟨g,d,k1,-,k3,k4⟩:=h3 j hj hk;exact⟨g,d,by rw[aa h1];exact k1,k3,k4⟩
theorem Hs.cell{w:World}{base G k:Nat}{fs:List Fn}(h:Hs w base G k fs){j:Nat}(hj:j<fs.length):∃v,w.cell? ⟨G,j,none⟩=some v:=by
 obtain⟨-,cur,h1,h2,-⟩:=h;exact⟨cur[j],by rw[aa h1];simp⟩
theorem Hs.free{w:World}{base G k:Nat}{fs:List Fn}(h:Hs w base G k fs)(j:Nat):w.frozen? ⟨G,j,none⟩=false:=by
 obtain⟨-,cur,h1,-,-⟩:=h;exact am h1 j
theorem Hs.three{w:World}{base G k R:Nat}{fs:List Fn}{c:Array Value}{x y z:Value}(h:Hs w base G k fs)(hR:w.heap[R]?=some (Obj.cells c 95 (0,0))):Hs (((w.setCell ⟨R,0,none⟩ x).setCell ⟨R,1,none⟩ y).setCell ⟨R,2,none⟩ z) base G k fs:=by
 have one:∀g,(∀c',w.heap[g]?≠some (Obj.cells c' 95 (0,0)))->(((w.setCell ⟨R,0,none⟩ x).setCell ⟨R,1,none⟩ y).setCell ⟨R,2,none⟩ z).heap[g]?=w.heap[g]?:=fun g hg=>by
  have hne:g≠R:=by
   intro e;subst e;exact hg _ hR
  rw[Below.heap_setCell _ _ _ _ hne,Below.heap_setCell _ _ _ _ hne,Below.heap_setCell _ _ _ _ hne]
 obtain⟨h0,cur,h1,h2,h3⟩:=h;refine⟨h0,cur,by rw[one G (by intro c' h;rw[h1] at h;simp at h)];exact h1,h2,fun j hj hk=>?_⟩;obtain⟨g,d,k1,k2,k3,cc,k4,k5⟩:=h3 j hj hk;exact⟨g,d,k1,k2,k3,cc,by rw[one g (by intro c' h;rw[k4] at h;simp at h)];exact k4,k5⟩
section
variable {fs:List Fn} {code:List (Int×Int)} {d:List Int} {pc:Nat} {z t l:Int}
theorem trouble_none(hk:pc<code.length)(hz:d.getD pc (-1)=z)(h:z<0):aI fs code d pc=0:=by
 unfold aI;simp only[bW hk,hz]
 rw[if_pos h]
theorem trouble_stack(hk:pc<code.length)(hz:d.getD pc (-1)=z)(ht:(aG fs code[pc].1 code[pc].2).1=t)(hl:(aG fs code[pc].1 code[pc].2).2=l)(h:¬z<0)(hc:z<t\/16<z-t+l):aI fs code d pc=2:=by
 unfold aI;simp only[bW hk,hz,ht,hl]
 rw[if_neg h,if_pos hc]
theorem trouble_end(hk:pc<code.length)(hz:d.getD pc (-1)=z)(ht:(aG fs code[pc].1 code[pc].2).1=t)(hl:(aG fs code[pc].1 code[pc].2).2=l)(h:¬z<0)(hc:¬(z<t\/16<z-t+l))
  (hn:(nextB code[pc].1 code[pc].2 pc).any (fun nx=>decide ((code.length:Int)<=nx))=true):aI fs code d pc=3:=by
 unfold aI;simp only[bW hk,hz,ht,hl]
 rw[if_neg h,if_neg hc,if_pos hn]
theorem trouble_join(hk:pc<code.length)(hz:d.getD pc (-1)=z)(ht:(aG fs code[pc].1 code[pc].2).1=t)(hl:(aG fs code[pc].1 code[pc].2).2=l)(h:¬z<0)(hc:¬(z<t\/16<z-t+l))
  (hn:(nextB code[pc].1 code[pc].2 pc).any (fun nx=>decide ((code.length:Int)<=nx))=false) (hj:(nextB code[pc].1 code[pc].2 pc).any (fun nx=>decide (d.getD nx.toNat (-1)≠z-t+l))=true):aI fs code d pc=4:=by
 unfold aI;simp only[bW hk,hz,ht,hl]
 rw[if_neg h,if_neg hc,if_neg (by rw[hn];simp),if_pos hj]
theorem trouble_fine(hk:pc<code.length)(hz:d.getD pc (-1)=z)(ht:(aG fs code[pc].1 code[pc].2).1=t)(hl:(aG fs code[pc].1 code[pc].2).2=l)(h:¬z<0)(hc:¬(z<t\/16<z-t+l))
  (hn:(nextB code[pc].1 code[pc].2 pc).any (fun nx=>decide ((code.length:Int)<=nx))=false) (hj:(nextB code[pc].1 code[pc].2 pc).any (fun nx=>decide (d.getD nx.toNat (-1)≠z-t+l))=false):aI fs code d pc=0:=by
 unfold aI;simp only[bW hk,hz,ht,hl]
 rw[if_neg h,if_neg hc,if_neg (by rw[hn];simp),if_neg (by rw[hj];simp)]
end
theorem dx{α:Type}{p:α->Bool}{l:List α}{k:Nat}(hk:k<l.length)(h:(l.take k).any p=false)(hx:p l[k]=false):(l.take (k+1)).any p=false:=by
 rw[List.take_succ_eq_append_getElem hk,List.any_append,h];simp[hx]
theorem eK{α:Type}{p:α->Bool}{l:List α}{k:Nat}(hk:k<l.length)(hx:p l[k]=true):l.any p=true:=by
 rw[List.any_eq_true];exact⟨l[k],n_l hk,hx⟩
theorem fH{α:Type}{p:α->Bool}{l:List α}{k:Nat}(hk:l.length<=k)(h:(l.take k).any p=false):l.any p=false:=by
 rwa [List.take_of_length_le hk] at h
theorem any_ends{n:Int}{l:List Int}(h:∀x∈l,x<=n):l.any (fun x=>decide (x=n))=l.any (fun x=>decide (n<=x)):=by
 rw[Bool.eq_iff_iff,List.any_eq_true,List.any_eq_true];constructor
 ·rintro⟨x,hx,he⟩;exact⟨x,hx,by simp at he ⊢;omega⟩
 ·rintro⟨x,hx,he⟩;have:=h x hx;exact⟨x,hx,by simp at he ⊢;omega⟩
theorem trouble_any(a1 a2 ca:Option Addr)(nt c1 c2 cc:Nat)(fs:List Fn)(code:List (Int×Int))(d:List Int)(g cap pc:Nat)(w:World)(hm:FnsAt w 0 a2 fs)(d4:bi w 0 ca code)(F:Fine fs code)(P:Hts code.length d)(hH:Ht w g cap d)(hlt:pc<code.length) :
  Calls Tryz.prog 102 #[.agg #[.slice a1 nt c1,.slice a2 fs.length c2],.slice ca code.length cc,.slice (some ⟨g,0,none⟩) code.length cap,.int .i64 pc] w fun e w'=>e=.returned (.int .i64 (aI fs code d pc))/\Below w.heap.size w w':=by
 have hmost:=F.most;have hbA:Below w.heap.size w (w.alloc (.cells #[.slice a1 nt c1,.slice a2 fs.length c2] 42)):=gM.alloc nL _;have hM0:=ah w #[.slice a1 nt c1,.slice a2 fs.length c2] 42;have hlen:pc<d.length:=by rw[P.len];exact hlt
 have HZ:Hid (d.getD pc (-1)=d[pc]):=P.get hlt;have z0:=P.low pc hlen;have z1:=P.high pc hlen;have hcl:=cell_later hbA (hH.cell hlen);have hH0:=hH.mono hbA;obtain⟨cb,co,rfl,-,e1,e2⟩:=d4 pc hlt;have e1':=cell_later hbA e1;have e2':=cell_later hbA e2;have y1:=aa hM0;obtain⟨u0,u1,u2,u3⟩:=di F.params code[pc].1 code[pc].2;clear e1 e2;by_cases hneg:d[pc]<0
 ·have hb:(d[pc] == -1)=true:=by rw[beq_iff_eq];omega
  have HT:Hid (aI fs code d pc=0):=trouble_none hlt HZ.out hneg;clear hneg;go_enter Tryz.func102,Tryz.ntmps102
  go_wp2;go_ret
  exact⟨cP HT.out.symm,hbA⟩
 have hb:(d[pc] == -1)=false:=by rw[beq_eq_false_iff_ne];omega
 have HNN:Hid (¬d[pc]<0):=hneg;obtain⟨wx,hwx⟩:∃wx,wx=w.alloc (.cells #[.slice a1 nt c1,.slice a2 fs.length c2] 42):=⟨_,rfl⟩;have HWX:Hid (wx=w.alloc (.cells #[.slice a1 nt c1,.slice a2 fs.length c2] 42)):=hwx;by_cases hfit:d[pc]<(aG fs code[pc].1 code[pc].2).1\/16<d[pc]-(aG fs code[pc].1 code[pc].2).1+(aG fs code[pc].1 code[pc].2).2
 ·have HT:Hid (aI fs code d pc=2):=trouble_stack hlt HZ.out rfl rfl hneg hfit;have HF:Hid (d[pc]<(aG fs code[pc].1 code[pc].2).1\/16<d[pc]-(aG fs code[pc].1 code[pc].2).1+(aG fs code[pc].1 code[pc].2).2):=hfit;clear hfit hneg hwx;go_enter Tryz.func102,Tryz.ntmps102
  go_wp2;rw[<-HWX.out] at hbA hM0 hcl hH0 e1' e2' y1 ⊢
  go_region_held3 (fun w'=>w'.cell? ⟨w.heap.size,0,none⟩=some (.slice a1 nt c1)/\w'.cell? ⟨w.heap.size,1,none⟩=some (.slice a2 fs.length c2)/\w'.cell? ⟨cb,co+pc*2,none⟩=some (.int .i64 code[pc].1)/\w'.cell? ⟨cb,co+pc*2+1,none⟩=some (.int .i64 code[pc].2)/\w'.cell? ⟨g,pc,none⟩=some (.int .i64 d[pc]))
   (first | exact⟨(y1 0).trans rfl,(y1 1).trans rfl,e1',e2',hcl⟩ | exact⟨ckb hM0 k6 rfl,ckb hM0 k6 rfl,cell_later k6 e1',cell_later k6 e2',cell_later k6 hcl⟩)
   (first | (go_at_call 147;refine (dL _ _ _ _ _ fs code[pc].1 code[pc].2 d[pc] _ (by exact hm.mono hbA.drew) F.params (by exact z0) (by exact z1)).mono ?_;rintro e w4 ⟨hL,k6d⟩;have k6:=bt k6d;obtain⟨qq,rfl⟩:=hL.no HF.out))
  go_wp2;go_ret
  exact⟨cP HT.out.symm,hbA.trans (k6.mono hbA.size)⟩
 obtain⟨left,hleft⟩:∃left,left=d[pc]-(aG fs code[pc].1 code[pc].2).1+(aG fs code[pc].1 code[pc].2).2:=⟨_,rfl⟩;have HL:Hid (left=d[pc]-(aG fs code[pc].1 code[pc].2).1+(aG fs code[pc].1 code[pc].2).2):=hleft;have HF:Hid (¬(d[pc]<(aG fs code[pc].1 code[pc].2).1\/16<d[pc]-(aG fs code[pc].1 code[pc].2).1+(aG fs code[pc].1 code[pc].2).2)):=hfit;have hnx:=eV F hlt;clear hfit hneg hwx hleft;go_enter Tryz.func102,Tryz.ntmps102
 go_wp2;rw[<-HWX.out] at hbA hM0 hcl hH0 e1' e2' y1 ⊢
 go_region_held3 (fun w'=>w'.cell? ⟨w.heap.size,0,none⟩=some (.slice a1 nt c1)/\w'.cell? ⟨w.heap.size,1,none⟩=some (.slice a2 fs.length c2)/\w'.cell? ⟨cb,co+pc*2,none⟩=some (.int .i64 code[pc].1)/\w'.cell? ⟨cb,co+pc*2+1,none⟩=some (.int .i64 code[pc].2)/\w'.cell? ⟨g,pc,none⟩=some (.int .i64 d[pc]))
  (first | exact⟨(y1 0).trans rfl,(y1 1).trans rfl,e1',e2',hcl⟩ | exact⟨ckb hM0 k6 rfl,ckb hM0 k6 rfl,cell_later k6 e1',cell_later k6 e2',cell_later k6 hcl⟩)
  (first | (go_at_call 147;refine (dL _ _ _ _ _ fs code[pc].1 code[pc].2 d[pc] _ (by exact hm.mono hbA.drew) F.params (by exact z0) (by exact z1)).mono ?_;rintro e w4 ⟨hL,k6d⟩;have k6:=bt k6d;obtain rfl:=hL.yes HF.out;rw[<-HL.out]))
 have hH4:=hH0.mono k6;have hb4:Below w.heap.size w w4:=hbA.trans (k6.mono hbA.size);have e14:=cell_later k6 e1';have e24:=cell_later k6 e2';clear hbA hM0 hcl hH0 e1' e2' y1 k6 k6d HWX;go_wp2_with fail
 refine (iNext_any code[pc].1 code[pc].2 pc _ (by omega)).mono ?_;rintro e w5 ⟨ad,ncap,rfl,hI,k7⟩;have hH5:=hH4.mono k7;have hb5:Below w.heap.size w w5:=hb4.trans (k7.mono hb4.size);obtain⟨nx,hnxe⟩:∃nx,nx=nextB code[pc].1 code[pc].2 pc:=⟨_,rfl⟩;have HX:Hid (nx=nextB code[pc].1 code[pc].2 pc):=hnxe;rw[<-hnxe] at hI hnx ⊢;have hnl:nx.length<=2:=by rw[hnxe];exact ee _ _ _
 have HE:Hid (nx.any (fun x=>decide (x=(code.length:Int)))=nx.any (fun x=>decide ((code.length:Int)<=x))):=any_ends fun x hx=>(hnx x hx).2
 clear hH4 hb4 k7 e14 e24 hnxe;go_wp2_with fail
 refine (contains_any ad nx ncap (code.length:Int) _ (by omega) (hI.low (Nat.zero_le _))).mono ?_;rintro e w6 ⟨rfl,hw6⟩;rw[hw6];clear hw6 w6;by_cases hend:nx.any (fun x=>decide (x=(code.length:Int)))=true
 ·have HT:Hid (aI fs code d pc=3):=by
   refine trouble_end hlt HZ.out rfl rfl (by have:=HNN.out;omega) (by have:=HF.out;omega) ?_;rw[<-HX.out,<-HE.out];exact hend
  go_wp2;go_ret
  exact⟨cP HT.out.symm,hb5⟩
 have hend':nx.any (fun x=>decide (x=(code.length:Int)))=false:=by rw[Bool.eq_false_iff];exact hend
 have HN:Hid (nx.any (fun x=>decide ((code.length:Int)<=x))=false):=by show _=_;rw[<-HE.out];exact hend'
 clear hend;go_wp2;clear hend';go_loop [46] (fun i=>∃(q:Nat),q<=nx.length/\i=.int .i64 q/\Hid ((nx.take q).any (fun x=>decide (d.getD x.toNat (-1)≠left))=false)) (fun i=>nx.length-(intOf i).toNat)
 case atStart=>exact⟨0,by omega,rfl,by show _=_;simp⟩
 case round=>
  obtain⟨q,hq,rfl,hno⟩:=hrel;by_cases hlq:q<nx.length
  ·obtain⟨v0,v1⟩:=hnx nx[q] (n_l hlq);obtain⟨nb,no,rfl,hnb,m1⟩:=hI q hlq;obtain⟨nk,hnk⟩:∃nk:Nat,nx[q]=(nk:Int):=⟨nx[q].toNat,by omega⟩;have hin:nk<code.length:=by
    rcases Nat.lt_or_ge nk code.length with h | h
    ·exact h
    ·have:=eK (p:=fun x=>decide ((code.length:Int)<=x)) hlq (by simp;omega);rw[HN.out] at this
     cases this
   rw[hnk] at m1;have hkl:nk<d.length:=by rw[P.len];exact hin
   have m2:=hH5.cell hkl;have hget:d.getD nx[q].toNat (-1)=d[nk]:=by rw[hnk,Int.toNat_natCast];exact P.get hin
   by_cases he:d[nk]=left
   ·have HQ:Hid ((nx.take (q+1)).any (fun x=>decide (d.getD x.toNat (-1)≠left))=false):=dx hlq hno.out (by simp only[hget,he];simp);have b1:(d[nk] != left)=false:=by simp[he]
    clear hno hget hnk he;go_wp2;go_round
    case rel=>exact⟨q+1,by omega,by go_num,HQ⟩
    case measure=>simp[intOf];omega
   ·have HT:Hid (aI fs code d pc=4):=by
     refine trouble_join hlt HZ.out rfl rfl (by have:=HNN.out;omega) (by have:=HF.out;omega) (by rw[<-HX.out];exact HN.out) ?_;rw[<-HX.out,<-HL.out];exact eK (p:=fun x=>decide (d.getD x.toNat (-1)≠left)) hlq (by simp only[hget];simpa using he)
    have b1:(d[nk] != left)=true:=by simpa using he
    clear hno hget hnk he;go_wp2;go_ret
    exact⟨cP HT.out.symm,hb5⟩
  ·have HT:Hid (aI fs code d pc=0):=by
    refine trouble_fine hlt HZ.out rfl rfl (by have:=HNN.out;omega) (by have:=HF.out;omega) (by rw[<-HX.out];exact HN.out) ?_;rw[<-HX.out,<-HL.out];exact fH (by omega) hno.out
   clear hno;go_wp2;go_ret
   exact⟨cP HT.out.symm,hb5⟩
theorem sVerify_any(a1 a2:Option Addr)(c1 c2:Nat)(ts:List ByteArray)(fs:List Fn)(w:World)(hs:b9 ts fs)(hm:aT w 0 a1 ts)(hm2:FnsAt w 0 a2 fs) :
  Calls Tryz.prog 42 #[.agg #[.slice a1 ts.length c1,.slice a2 fs.length c2]] w fun e w'=>∃c f a,e=.returned (.agg #[.int .i64 c,.int .i64 f,.int .i64 a])/\VPost ts fs c f a/\Below w.heap.size w w':=by
 have hn:=hs.funcs;have hbA:Below w.heap.size w ((w.alloc (.cells #[.slice a1 ts.length c1,.slice a2 fs.length c2] 42)).alloc (.cells #[.int .i64 0,.int .i64 0,.int .i64 0] 95)):=(gM.alloc nL _).alloc (by simp) _;have hM0:=al (ah w #[.slice a1 ts.length c1,.slice a2 fs.length c2] 42) (.cells #[.int .i64 0,.int .i64 0,.int .i64 0] 95);have hR0:=ah (w.alloc (.cells #[.slice a1 ts.length c1,.slice a2 fs.length c2] 42)) #[.int .i64 0,.int .i64 0,.int .i64 0] 95;rw[World.size_alloc] at hR0;go_enter Tryz.func42,Tryz.ntmps42
 go_wp2_with fail
 refine (sModuleOk_any _ _ ts fs _ _ _ hs (hm.mono hbA) (hm2.mono hbA)).mono ?_;rintro e w1 ⟨rfl,hb⟩;have hM1:=ab hM0 hb;have hR1:=ab hR0 hb;have hb1:Below w.heap.size w w1:=hbA.trans (hb.mono (by simp;omega));have r1:=aa hR1;have r2:=am hR1;clear hbA hM0 hR0 hb;by_cases hok:modB ts fs=true
 ·have HO:Hid (modB ts fs=true):=hok;have FF:∀k (hk:k<fs.length),Fine fs fs[k].code:=fun k hk=>cy hok hk
  go_wp2;clear hok r1 r2;go_loopw [3] (fun i wr=>∃(k:Nat),k<=fs.length/\i=.int .i64 k/\Hid (∀q (hq:q<fs.length),q<k->fp fs fs[q].code fs[q].code.length)/\wr.heap[w.heap.size]?=some (.cells #[.slice a1 ts.length c1,.slice a2 fs.length c2] 42 (0,0))/\wr.heap[w.heap.size+1]?=some (.cells #[.int .i64 0,.int .i64 0,.int .i64 0] 95 (0,0))/\Below w.heap.size w wr) (fun i _=>fs.length-(intOf i).toNat)
  case atStart=>exact⟨0,by omega,rfl,fun _ _ h=>absurd h (Nat.not_lt_zero _),hM1,hR1,hb1⟩
  case round=>
   obtain⟨k,hk,rfl,hcl,hM,hR,hb⟩:=hrel;obtain⟨wo,rfl⟩:∃wo,wo=wr:=⟨_,rfl⟩;clear hM1 hR1 hb1;have y0:=aa hM;by_cases hlt:k<fs.length
   ·have F:=FF k hlt;have hmost:=F.most;obtain⟨b,off,ca,cc,rfl,-,d1,d2,d3,d4⟩:=hm2 k hlt;have d3':=cell_later hb d3;clear d1 d2 d3;go_wp2_with fail
    refine (cO _ _ _ _ _ fs k _ hlt hn (hm2.mono hb) F).mono ?_;rintro e w2 ⟨g,cap,d,rfl,hg,hD,hH,k2⟩;have P:=hD.hts F;have hM2:=ab hM k2;have hR2:=ab hR k2;have hb2:Below w.heap.size w w2:=hb.trans (k2.mono hb.size);clear k2 d3' hM hR hb y0;go_wp2;go_loopw [6] (fun i ws=>∃(j:Nat),j<=fs[k].code.length/\i=.int .i64 j/\Hid (∀q,q<j->aI fs fs[k].code d q=0)/\Ht ws g cap d/\ws.heap[w.heap.size]?=some (.cells #[.slice a1 ts.length c1,.slice (some ⟨b,off,none⟩) fs.length c2] 42 (0,0))/\ws.heap[w.heap.size+1]?=some (.cells #[.int .i64 0,.int .i64 0,.int .i64 0] 95 (0,0))/\Below w.heap.size w ws) (fun i _=>fs[k].code.length-(intOf i).toNat)
    case atStart=>exact⟨0,by omega,rfl,fun _ h=>absurd h (Nat.not_lt_zero _),hH,hM2,hR2,hb2⟩
    case round=>
     obtain⟨j,hj,rfl,hno,hH3,hM3,hR3,hb3⟩:=hrel;obtain⟨ws,rfl⟩:∃ws,ws=wr:=⟨_,rfl⟩;clear hH hM2 hR2 hb2;by_cases hlj:j<fs[k].code.length
     ·have hlen:j<d.length:=by rw[P.len];exact hlj
      have HZ:Hid (d.getD j (-1)=d[j]):=P.get hlj;have z0:=P.low j hlen;have z1:=P.high j hlen;have hcell:=hH3.cell hlen;by_cases hneg:d[j]<0
      ·have HT:Hid (aI fs fs[k].code d j=0):=trouble_none hlj HZ.out hneg;go_wp2;go_roundw
       case rel=>exact⟨j+1,by omega,by go_num,fun q hq=>(by
        by_cases e:q=j
        ·subst e;exact HT.out
        ·exact hno.out q (by omega)),hH3,hM3,hR3,hb3⟩
       case measure=>simp[intOf];omega
      have HNN:Hid (0<=d[j]):=(show 0<=d[j] by omega)
      obtain⟨cb,co,rfl,-,e1,e2⟩:=d4 j hlj;have e1':=cell_later hb3 e1;have e2':=cell_later hb3 e2;have y1:=aa hM3;obtain⟨u0,u1,u2,u3⟩:=di F.params fs[k].code[j].1 fs[k].code[j].2;clear e1 e2;go_wp2
      go_region_held3 (fun w'=>w'.cell? ⟨w.heap.size,0,none⟩=some (.slice a1 ts.length c1)/\w'.cell? ⟨w.heap.size,1,none⟩=some (.slice (some ⟨b,off,none⟩) fs.length c2)/\w'.cell? ⟨cb,co+j*2,none⟩=some (.int .i64 fs[k].code[j].1)/\w'.cell? ⟨cb,co+j*2+1,none⟩=some (.int .i64 fs[k].code[j].2))
       (first | exact⟨(y1 0).trans rfl,(y1 1).trans rfl,e1',e2'⟩ | exact⟨ckb hM3 k6 rfl,ckb hM3 k6 rfl,cell_later k6 e1',cell_later k6 e2'⟩)
       (first | (go_at_call 84;refine (sUses_any _ _ _ _ _ fs fs[k].code[j].1 fs[k].code[j].2 _ hn (by exact hm2.mono hb3.drew)).mono ?_;rintro e w4 ⟨rfl,k6d⟩;have k6:=bt k6d))
      have hM4:=ab hM3 k6;have hR4:=ab hR3 k6;have hH4:=hH3.mono k6;have hb4:Below w.heap.size w w4:=hb3.trans (k6.mono hb3.size);have hcell4:=hH4.cell hlen;have e14:=cell_later k6 e1';have e24:=cell_later k6 e2';clear hM3 hR3 hH3 hb3 hcell y1 e1' e2' k6 k6d;by_cases hfit:d[j]<(aG fs fs[k].code[j].1 fs[k].code[j].2).1\/16<d[j]-(aG fs fs[k].code[j].1 fs[k].code[j].2).1+(aG fs fs[k].code[j].1 fs[k].code[j].2).2
      ·have HT:Hid (aI fs fs[k].code d j=2):=trouble_stack hlj HZ.out rfl rfl (by have:=HNN.out;omega) hfit;have r4:=aa hR4;have q4:=am hR4;rcases (show d[j]<(aG fs fs[k].code[j].1 fs[k].code[j].2).1\/((aG fs fs[k].code[j].1 fs[k].code[j].2).1<=d[j]/\16<d[j]-(aG fs fs[k].code[j].1 fs[k].code[j].2).1+(aG fs fs[k].code[j].1 fs[k].code[j].2).2) by omega) with hx | ⟨hx,hy⟩
       all_goals
        clear hfit;go_wp2;have rr:=aa (bB (x:=2) (y:=(k:Int)) (z:=(j:Int)) hR4);refine bodyPost_ret (v:=.agg #[.int .i64 2,.int .i64 (k:Int),.int .i64 (j:Int)]) (by simp[results,Tryz.results42,go_sem,rr]) rfl ⟨2,(k:Int),(j:Int),rfl,.inr ⟨HO.out,.inr ⟨k,hlt,j,d,rfl,rfl,hlj,hD,HT.out,by decide,cn hD hno.out,hcl.out⟩⟩,?_⟩;exact ((hb4.setCell (by simp) _).setCell (by simp) _).setCell (by simp) _
      obtain⟨left,hleft⟩:∃left,left=d[j]-(aG fs fs[k].code[j].1 fs[k].code[j].2).1+(aG fs fs[k].code[j].1 fs[k].code[j].2).2:=⟨_,rfl⟩;have HL:Hid (left=d[j]-(aG fs fs[k].code[j].1 fs[k].code[j].2).1+(aG fs fs[k].code[j].1 fs[k].code[j].2).2):=hleft;have hx:(aG fs fs[k].code[j].1 fs[k].code[j].2).1<=d[j]:=by omega
      have hy:d[j]-(aG fs fs[k].code[j].1 fs[k].code[j].2).1+(aG fs fs[k].code[j].1 fs[k].code[j].2).2<=16:=by omega
      have HF:Hid ((aG fs fs[k].code[j].1 fs[k].code[j].2).1<=d[j]/\d[j]-(aG fs fs[k].code[j].1 fs[k].code[j].2).1+(aG fs fs[k].code[j].1 fs[k].code[j].2).2<=16):=⟨hx,hy⟩;have hnx:=eV F hlj;clear hfit hleft;go_wp2_with fail
      rw[<-HL.out];refine (sNext_any fs[k].code[j].1 fs[k].code[j].2 j _ (by omega)).mono ?_;rintro e w5 ⟨ad,ncap,rfl,hI,k7⟩;have hM5:=ab hM4 k7;have hR5:=ab hR4 k7;have hH5:=hH4.mono k7;have hb5:Below w.heap.size w w5:=hb4.trans (k7.mono hb4.size);have r5:=aa hR5;have q5:=am hR5;obtain⟨nx,hnxe⟩:∃nx,nx=nextB fs[k].code[j].1 fs[k].code[j].2 j:=⟨_,rfl⟩;have HX:Hid (nx=nextB fs[k].code[j].1 fs[k].code[j].2 j):=hnxe;rw[<-hnxe] at hI hnx ⊢;have hnl:nx.length<=2:=by rw[hnxe];exact ee _ _ _
      clear hM4 hR4 hH4 hb4 k7 hcell4 e14 e24 hnxe;go_wp2;go_loop [11] (fun i=>∃(q:Nat),q<=nx.length/\i=.int .i64 q/\Hid ((nx.take q).any (fun x=>decide ((fs[k].code.length:Int)<=x))=false)) (fun i=>nx.length-(intOf i).toNat)
      case atStart=>exact⟨0,by omega,rfl,by show _=_;simp⟩
      case round=>
       obtain⟨q,hq,rfl,hqn⟩:=hrel;by_cases hlq:q<nx.length
       ·obtain⟨v0,v1⟩:=hnx nx[q] (n_l hlq);obtain⟨nb,no,rfl,hnb,m1⟩:=hI q hlq;by_cases hend:(fs[k].code.length:Int)<=nx[q]
        ·have HT:Hid (aI fs fs[k].code d j=3):=by
          refine trouble_end hlj HZ.out rfl rfl (by have:=HNN.out;omega) (by have:=HF.out;omega) ?_;rw[<-HX.out];exact eK (p:=fun x=>decide ((fs[k].code.length:Int)<=x)) hlq (by simpa using hend)
         clear hqn;go_wp2;have rr:=aa (bB (x:=3) (y:=(k:Int)) (z:=(j:Int)) hR5);refine bodyPost_ret (v:=.agg #[.int .i64 3,.int .i64 (k:Int),.int .i64 (j:Int)]) (by simp[results,Tryz.results42,go_sem,rr]) rfl ⟨3,(k:Int),(j:Int),rfl,.inr ⟨HO.out,.inr ⟨k,hlt,j,d,rfl,rfl,hlj,hD,HT.out,by decide,cn hD hno.out,hcl.out⟩⟩,?_⟩;exact ((hb5.setCell (by simp) _).setCell (by simp) _).setCell (by simp) _
        ·have HQ:Hid ((nx.take (q+1)).any (fun x=>decide ((fs[k].code.length:Int)<=x))=false):=dx hlq hqn.out (by simpa using hend);clear hqn;go_wp2;go_round
         case rel=>exact⟨q+1,by omega,by go_num,HQ⟩
         case measure=>simp[intOf];omega
       ·have HN:Hid (nx.any (fun x=>decide ((fs[k].code.length:Int)<=x))=false):=fH (by omega) hqn.out;clear hqn;go_wp2;go_loop [12] (fun i=>∃(q:Nat),q<=nx.length/\i=.int .i64 q/\Hid ((nx.take q).any (fun x=>decide (d.getD x.toNat (-1)≠left))=false)) (fun i=>nx.length-(intOf i).toNat)
        case atStart=>exact⟨0,by omega,rfl,by show _=_;simp⟩
        case round=>
         obtain⟨p,hp,rfl,hpn⟩:=hrel;by_cases hlp:p<nx.length
         ·obtain⟨v0,v1⟩:=hnx nx[p] (n_l hlp);obtain⟨nb,no,rfl,hnb,m1⟩:=hI p hlp;obtain⟨nk,hnk⟩:∃nk:Nat,nx[p]=(nk:Int):=⟨nx[p].toNat,by omega⟩;have hin:nk<fs[k].code.length:=by
           rcases Nat.lt_or_ge nk fs[k].code.length with h | h
           ·exact h
           ·have:=eK (p:=fun x=>decide ((fs[k].code.length:Int)<=x)) hlp (by simp;omega);rw[HN.out] at this
            cases this
          rw[hnk] at m1;have hkl:nk<d.length:=by rw[P.len];exact hin
          have m2:=hH5.cell hkl;have hget:d.getD nx[p].toNat (-1)=d[nk]:=by rw[hnk,Int.toNat_natCast];exact P.get hin
          by_cases he:d[nk]=left
          ·have HQ:Hid ((nx.take (p+1)).any (fun x=>decide (d.getD x.toNat (-1)≠left))=false):=dx hlp hpn.out (by simp only[hget,he];simp);have b1:(d[nk] != left)=false:=by simp[he]
           clear hpn hget hnk he;go_wp2;go_round
           case rel=>exact⟨p+1,by omega,by go_num,HQ⟩
           case measure=>simp[intOf];omega
          ·have HT:Hid (aI fs fs[k].code d j=4):=by
            refine trouble_join hlj HZ.out rfl rfl (by have:=HNN.out;omega) (by have:=HF.out;omega) (by rw[<-HX.out];exact HN.out) ?_;rw[<-HX.out,<-HL.out];exact eK (p:=fun x=>decide (d.getD x.toNat (-1)≠left)) hlp (by simp only[hget];simpa using he)
           have b1:(d[nk] != left)=true:=by simpa using he
           clear hpn hget hnk he;go_wp2;have rr:=aa (bB (x:=4) (y:=(k:Int)) (z:=(j:Int)) hR5);refine bodyPost_ret (v:=.agg #[.int .i64 4,.int .i64 (k:Int),.int .i64 (j:Int)]) (by simp[results,Tryz.results42,go_sem,rr]) rfl ⟨4,(k:Int),(j:Int),rfl,.inr ⟨HO.out,.inr ⟨k,hlt,j,d,rfl,rfl,hlj,hD,HT.out,by decide,cn hD hno.out,hcl.out⟩⟩,?_⟩;exact ((hb5.setCell (by simp) _).setCell (by simp) _).setCell (by simp) _
         ·have HT:Hid (aI fs fs[k].code d j=0):=by
           refine trouble_fine hlj HZ.out rfl rfl (by have:=HNN.out;omega) (by have:=HF.out;omega) (by rw[<-HX.out];exact HN.out) ?_;rw[<-HX.out,<-HL.out];exact fH (by omega) hpn.out
          clear hpn;go_wp2;go_roundw
          case rel=>exact⟨j+1,by omega,by go_num,fun q hq=>(by
           by_cases e:q=j
           ·subst e;exact HT.out
           ·exact hno.out q (by omega)),hH5,hM5,hR5,hb5⟩
          case measure=>simp[intOf];omega
     ·have hjn:j=fs[k].code.length:=by omega
      subst hjn;go_wp2;go_roundw
      case rel=>exact⟨k+1,by omega,by go_num,fun q hq hqk=>(by
        by_cases e:q=k
        ·subst e;exact cn hD hno.out
        ·exact hcl.out q hq (by omega)),hM3,hR3,hb3⟩
      case measure=>simp[intOf];omega
   ·have r4:=aa hR;have q4:=am hR;go_wp2;have rr:=aa (bB (x:=0) (y:=0) (z:=0) hR);refine bodyPost_ret (v:=.agg #[.int .i64 0,.int .i64 0,.int .i64 0]) (by simp[results,Tryz.results42,go_sem,rr]) rfl ⟨0,0,0,rfl,.inr ⟨HO.out,.inl ⟨rfl,rfl,rfl,fun q hq=>hcl.out q hq (by omega)⟩⟩,?_⟩;exact ((hb.setCell (by simp) _).setCell (by simp) _).setCell (by simp) _
 ·have hok':modB ts fs=false:=by simpa using hok
  have HO:Hid (modB ts fs=false):=hok';clear hok;go_wp2;have rr:=aa (bB (x:=1) (y:=0) (z:=0) hR1);refine bodyPost_ret (v:=.agg #[.int .i64 1,.int .i64 0,.int .i64 0]) (by simp[results,Tryz.results42,go_sem,rr]) rfl ⟨1,0,0,rfl,.inl ⟨HO.out,rfl,rfl,rfl⟩,?_⟩;exact ((hb1.setCell (by simp) _).setCell (by simp) _).setCell (by simp) _
end Go.Proofs.YtdlkbbgmjilccaaGreatDoor
