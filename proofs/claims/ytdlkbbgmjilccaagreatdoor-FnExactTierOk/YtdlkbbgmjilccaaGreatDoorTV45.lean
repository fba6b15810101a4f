/- TV45 -/
import Derived.Test.YtdlkbbgmjilccaaGreatDoorTV33
import Derived.Test.YtdlkbbgmjilccaaGreatDoorTV27
import Derived.RegionTactic
set_option maxHeartbeats 32000000
set_option maxRecDepth 100000
namespace Go.Proofs.YtdlkbbgmjilccaaGreatDoor
open Go.RowKit
theorem step_make{P:Program}{w:World}{ops:Array Oper}{o:Oper}{a:Act}{K:Act->World->Prop}{Q:Exit->Act->World->Prop}{E:Prop}(hgd:o.guard=none)(l c:Operand)(t:TypeId)(hop:o.op=Op.makeSlice t l c)
  (base:Nat) (e:TypeId) (i:TypeInfo) (z:Value) (size:Nat) (h1:P.underlying t=some (.slice e)) (h2:P.info? e=some i) (h3:i.zero=some z) (h4:i.size=size)
  (kl kc:IntKind) (L C:Int) (n:Nat) (hl:a.eval l=.int kl L) (hc:a.eval c=.int kc C) (hL:L=(n:Int)) (hC:C=(n:Int)) (b2:i.bytes*n<=281474976710656) (b3:n<=maxLen) (b4:base<=w.heap.size)
  (h:∀w',w'.ownsRow base e size (.slice (some ⟨w.heap.size,0,none⟩) n n) n (madeCells z.cells (n*size)).toList->w.grownBy w' none->K (a.put o.dst (.slice (some ⟨w.heap.size,0,none⟩) n n)) w') :
  if Region.wanted o (yielded ops a.tmps)=true then Oper.wp P o a w K Q else E:=by
 have hw:Region.wanted o (yielded ops a.tmps)=true:=by simp[Region.wanted,hgd]
 rw[if_pos hw];obtain⟨w',hrun,r1,r2⟩:=run_make_full (P:=P) w base t e i z size h1 h2 h3 h4 kl kc n b2 b3 b4;subst hL;subst hC;unfold Oper.wp;simp[execOp,hop,hl,hc,hrun,Result.andThen]
 exact h w' r1 r2
def nils (n:Nat):List Vl:=List.replicate n zeroV
theorem nils_small(n:Nat)(h:n<=1048576):aK (nils n):=⟨by simpa[nils] using h,fun v hv=>by rw[List.eq_of_mem_replicate hv];decide⟩
theorem nils_ok(n nf:Nat):bu (nils n) nf 0=true:=by
 unfold bu nils;rw[List.all_eq_true];intro v hv;rw[List.eq_of_mem_replicate hv];rfl
theorem made_get{z:Array Value}{n j:Nat}(h:j<n):(madeCells z n).toList[j]?=some (z[j % z.size]!):=by simp[madeCells,h]
theorem made3{w1:World}{base g n:Nat}(h:w1.ownsRow base 46 3 (.slice (some ⟨g,0,none⟩) n n) n (madeCells #[.int .i64 0,.int .i64 0,.string ByteArray.empty] (n*3)).toList) :
  ∃cur,w1.heap[g]?=some (.cells cur 46 (0,0))/\cur.size=n*3/\∀i,i<n->cur[i*3]?=some (.int .i64 0)/\cur[i*3+1]?=some (.int .i64 0)/\cur[i*3+2]?=some (.string ⟨#[]⟩):=by
 rcases h.2 with ⟨hv,-⟩ | ⟨g',cap,cur,hv,-,hh,-,-,hs,ht⟩
 ·cases hv
 ·cases hv;refine⟨cur,hh,hs,fun i hi=>?_⟩;have get:∀j,j<n*3->cur[j]?=some ((#[.int .i64 0,.int .i64 0,.string ByteArray.empty]:Array Value)[j % 3]!):=fun j hj=>by
   have e:=made_get (z:=#[.int .i64 0,.int .i64 0,.string ByteArray.empty]) hj;rw[<-ht,List.getElem?_take_of_lt hj] at e;simpa using e
  refine⟨?_,?_,?_⟩
  ·rw[get _ (by omega),show i*3 % 3=0 by omega];rfl
  ·rw[get _ (by omega),show (i*3+1) % 3=1 by omega];rfl
  ·rw[get _ (by omega),show (i*3+2) % 3=2 by omega];rfl
theorem cA{w:World}{base g n:Nat}(h:w.ownsRow base 46 3 (.slice (some ⟨g,0,none⟩) n n) n (madeCells (Value.agg #[.int .i64 0,.int .i64 0,.string ByteArray.empty]).cells (n*3)).toList):aO w 0 (some ⟨g,0,none⟩) (nils n):=by
 obtain⟨cur,h1,-,h3⟩:=made3 h;intro i hi;have hi':i<n:=by simpa[nils] using hi
 obtain⟨c1,c2,c3⟩:=h3 i hi';have e:(nils n)[i]=zeroV:=by simp[nils]
 rw[e];exact⟨g,0,rfl,Nat.zero_le _,by rw[aa h1,Nat.zero_add];exact c1,by rw[aa h1,Nat.zero_add];exact c2,by rw[aa h1,Nat.zero_add];exact c3⟩
theorem frOk_nils{fs:List Fn}{f pc:Int}{nl ns:Nat}{last:Bool}:FrOk fs ⟨f,pc,nils nl,nils ns⟩ 0 last↔Fits fs f pc nl ns last:=by
 unfold FrOk;simp only[nils_ok,and_true]
 simp[nils]
def bJ (fs:List Fn)(D:aH)(nr:Nat)(fr:List EF)(k:Nat):Prop:=∀i (h:i<fr.length),i<k->cJ fs D nr fr[i] (decide ((i:Int)=(fr.length:Int)-1))
def dH (nf:Nat)(D:aH)(nr:Nat)(rs:List ER)(k:Nat):Prop:=∀i (h:i<rs.length),i<k->fw nf D nr rs[i]
theorem bJ.more{fs:List Fn}{D:aH}{nr k:Nat}{fr:List EF}(hk:k<fr.length):bJ fs D nr fr k/\cJ fs D nr fr[k] (decide ((k:Int)=(fr.length:Int)-1))↔bJ fs D nr fr (k+1):=
 ⟨fun q i h hi=>by
  by_cases e:i=k
  ·subst e;exact q.2
  ·exact q.1 i h (by omega),fun q=>⟨fun i h hi=>q i h (by omega),q k hk (by omega)⟩⟩
theorem dH.more{nf:Nat}{D:aH}{nr k:Nat}{rs:List ER}(hk:k<rs.length):dH nf D nr rs k/\fw nf D nr rs[k]↔dH nf D nr rs (k+1):=
 ⟨fun q i h hi=>by
  by_cases e:i=k
  ·subst e;exact q.2
  ·exact q.1 i h (by omega),fun q=>⟨fun i h hi=>q i h (by omega),q k hk (by omega)⟩⟩
theorem bJ.zero{fs:List Fn}{D:aH}{nr:Nat}{fr:List EF}:bJ fs D nr fr 0:=fun _ _ h=>absurd h (Nat.not_lt_zero _)
theorem dH.zero{nf:Nat}{D:aH}{nr:Nat}{rs:List ER}:dH nf D nr rs 0:=fun _ _ h=>absurd h (Nat.not_lt_zero _)
section
variable {fs:List Fn} {a1 a2:Option Addr} {nt c1 c2:Nat} {w:World}
theorem frB_any(f pc:Int)(gl gs:Nat)(nl ns:Nat)(last:Bool)(hn:fs.length<=1048576)(hm:FnsAt w 0 a2 fs)(FF:∀k (hk:k<fs.length),Fine fs fs[k].code)(h1:nl<=1048576)(h2:ns<=1048576)
  (hvl:aO w 0 (some ⟨gl,0,none⟩) (nils nl))(hvs:aO w 0 (some ⟨gs,0,none⟩) (nils ns)) :
  Calls Tryz.prog 89 #[.agg #[.slice a1 nt c1,.slice a2 fs.length c2],.agg #[.int .i64 f,.int .i64 pc,.slice (some ⟨gl,0,none⟩) nl nl,.slice (some ⟨gs,0,none⟩) ns ns],.int .i64 0,.bool last] w fun e w'=>e=.returned (.bool (pB (Fits fs f pc nl ns last)))/\Below w.heap.size w w':=by
 have:=ci a1 a2 (some ⟨gl,0,none⟩) (some ⟨gs,0,none⟩) nt c1 c2 nl ns fs ⟨f,pc,nils nl,nils ns⟩ 0 last w hn hm FF (nils_small nl h1) (nils_small ns h2) hvl hvs;simp only[nils,List.length_replicate] at this
 exact this.mono fun _ _ q=>⟨by rw[<-dY (frOk_nils (fs:=fs) (f:=f) (pc:=pc) (nl:=nl) (ns:=ns) (last:=last))];exact Says.pB q.1,q.2⟩
end
section
variable {P:Program} {ops:Array Oper} {Q:Exit->Act->World->Prop} {md:Region.Mode} {S:World->Prop}
theorem dq{i:Nat}{n:Nat}{listed:Array Bool}{a:Act}{w:World}(l c:Operand)(t:TypeId)(dst:Option Nat)
  (ho:(ops[i]?).map (fun o=>(o.op,o.dst,o.guard))=some (Op.makeSlice t l c,dst,none))
  (base:Nat) (e:TypeId) (ti:TypeInfo) (z:Value) (size:Nat) (h1:P.underlying t=some (.slice e)) (h2:P.info? e=some ti) (h3:ti.zero=some z) (h4:ti.size=size)
  (m:Nat) (hl:a.eval l=.int .i64 (m:Int)) (hc:a.eval c=.int .i64 (m:Int)) (b2:ti.bytes*m<=281474976710656) (b3:m<=maxLen) (b4:base<=w.heap.size)
  (h:∀w',w'.ownsRow base e size (.slice (some ⟨w.heap.size,0,none⟩) m m) m (madeCells z.cells (m*size)).toList->w.grownBy w' none->S w'/\wpAnyH P md ops Q S n (listed.setIfInBounds i true) (a.put dst (.slice (some ⟨w.heap.size,0,none⟩) m m)) w') :
  wpOp P ops Q i (fun a' w'=>S w'/\wpAnyH P md ops Q S n (listed.setIfInBounds i true) a' w') a w:=by
 obtain⟨o,ho1,ho2⟩:=Option.map_eq_some_iff.1 ho;simp only[Prod.mk.injEq] at ho2
 obtain⟨e1,e2,e3⟩:=ho2;refine eO ho1 (fun K hK=>?_);refine step_make e3 l c t e1 base e ti z size h1 h2 h3 h4 .i64 .i64 (m:Int) (m:Int) m hl hc rfl rfl b2 b3 b4 (fun w' k1 k2=>?_);rw[e2];exact hK _ _ (h w' k1 k2).1 (h w' k1 k2).2
end
theorem dn{w1:World}{base g n:Nat}{l:List Value}(h:w1.ownsRow base 46 3 (.slice (some ⟨g,0,none⟩) n n) n l):g<w1.heap.size:=by
 rcases h.2 with ⟨hv,-⟩ | ⟨g',cap,cur,hv,-,hh,-⟩
 ·cases hv
 ·cases hv;exact aq hh
theorem cw{w:World}{b g:Nat}{vs:List Vl}{a0 a1 a2 a3:Value}(h:aO w 0 (some ⟨b,0,none⟩) vs)(hne:b≠g):aO ((((w.setCell ⟨g,0,none⟩ a0).setCell ⟨g,1,none⟩ a1).setCell ⟨g,2,none⟩ a2).setCell ⟨g,3,none⟩ a3) 0 (some ⟨b,0,none⟩) vs:=by
 have key:∀(w:World) (i j:Nat) (v:Value),(w.setCell ⟨g,i,none⟩ v).cell? ⟨b,j,none⟩=w.cell? ⟨b,j,none⟩:=fun w i j v=>World.cell?_setCell_other _ _ _ _ (by intro h;simp only[Addr.mk.injEq] at h;omega)
 intro i hi;obtain⟨b',off,e,h0,h1,h2,h3⟩:=h i hi
 cases e;exact⟨b,0,rfl,h0,by rw[key,key,key,key];exact h1,by rw[key,key,key,key];exact h2,by rw[key,key,key,key];exact h3⟩
theorem bn{w w':World}(h:w.grownBy w' none):Below w.heap.size w w':=gM.grown h nL (by intro k hk;cases hk)
section
variable {fs:List Fn} {a1 a2 oa ea fa ra:Option Addr} {nt c1 c2 oc ec K fc rc:Nat} {D:aH} {wK w:World} {b:Bool}
theorem kLeave_any(x:Ex)(hsm:ck x)(hfr:bZ wK 0 fa x.frames)(hrc:b8 wK 0 ra x.recs)(l:SLim fs D K wK a2 oa ea)(h:Chk a1 a2 oa ea nt c1 c2 oc ec fs.length K D wK b w) :
  Calls Tryz.prog 94 #[.pointer (some ⟨K,0,none⟩),.agg #[.int .i64 x.kind,.int .i64 x.spec.f,.int .i64 x.spec.pc,.int .i64 x.spec.seen,.int .i64 x.spec.target,.slice fa x.frames.length fc,.slice ra x.recs.length rc]] w fun e w'=>e=.returned (.tuple #[])/\Chk a1 a2 oa ea nt c1 c2 oc ec fs.length K D wK (b || !pB (eR fs D x)) w'/\Rk K w w':=by
 have hwk:K<w.heap.size:=aq h.blk;have hne:w.heap.size≠K:=by omega
 obtain⟨wA,hwA⟩:∃wA,wA=w.alloc (.cells #[.int .i64 x.kind,.int .i64 x.spec.f,.int .i64 x.spec.pc,.int .i64 x.spec.seen,.int .i64 x.spec.target,.slice fa x.frames.length fc,.slice ra x.recs.length rc] 175):=⟨_,rfl⟩;have hbA:Below w.heap.size w wA:=by rw[hwA];exact gM.alloc nL _
 have hX1:wA.heap[w.heap.size]?=some (.cells #[.int .i64 x.kind,.int .i64 x.spec.f,.int .i64 x.spec.pc,.int .i64 x.spec.seen,.int .i64 x.spec.target,.slice fa x.frames.length fc,.slice ra x.recs.length rc] 175 (0,0)):=by rw[hwA];exact ah _ _ _
 have hC1:=h.mono hbA;have R1:Rk K w wA:=Rk.of hbA;have x0:=aa (ah w #[.int .i64 x.kind,.int .i64 x.spec.f,.int .i64 x.spec.pc,.int .i64 x.spec.seen,.int .i64 x.spec.target,.slice fa x.frames.length fc,.slice ra x.recs.length rc] 175);clear h hbA;go_enter Tryz.func94,Tryz.ntmps94
 go_wp2_with fail
 rw[<-hwA];have x1:=aa hX1;clear hwA x0;refine (a8 _ _ _ _).mono ?_;rintro e wz ⟨rfl,hw⟩;rw[hw];clear hw wz;go_wp2_with fail
 refine (bc _ hC1).mono ?_;rintro e w11 ⟨rfl,hC2,hr⟩;have hX2:=ak hX1 hne hr;have R2:=R1.trans hr;clear x1 hX1 R1 hC1 hr;have x2:=aa hX2;go_upto_if 16 with fail
 go_cut [] from 16 to 31 (fun wx=>Hid (Chk a1 a2 oa ea nt c1 c2 oc ec fs.length K D wK ((b || !pB (Btw x.kind 1 4)) || !pB (cj fs x)) wx/\Rk K w11 wx))
 case first=>
  by_cases h2:x.kind=2
  case pos=>
   have HK2:Hid (x.kind=2):=h2;have g2:(x.kind == 2)=true:=by simpa using h2
   clear h2;have HC:Hid (Chk a1 a2 oa ea nt c1 c2 oc ec fs.length K D wK _ w11):=hC2;have HXX:=hX2;have HS:Hid (∀w',Below w11.heap.size w11 w'->w'.cell? ⟨K,0,none⟩=some (.slice a1 nt c1)/\w'.cell? ⟨K,1,none⟩=some (.slice a2 fs.length c2)/\w'.cell? ⟨w.heap.size,1,none⟩=some (.int .i64 x.spec.f)/\w'.cell? ⟨w.heap.size,2,none⟩=some (.int .i64 x.spec.pc)/\w'.cell? ⟨w.heap.size,3,none⟩=some (.int .i64 x.spec.seen)/\w'.cell? ⟨w.heap.size,4,none⟩=some (.int .i64 x.spec.target)):=fun w' q=>⟨(HC.out.mono q).cells 0,(HC.out.mono q).cells 1,aa (ab HXX q) 1,aa (ab HXX q) 2,aa (ab HXX q) 3,aa (ab HXX q) 4⟩
   obtain⟨j0,j1,j2,j3,j4,j5⟩:=HS.out _ gM;have q:Below w11.heap.size w11 w11.drew:=gM.drew;have HFN:Hid (∀w',Below w11.heap.size w11 w'->FnsAt w' 0 a2 fs):=fun w' q=>(l.at (HC.out.mono q)).1
   go_upto_region 3 with fail
   clear x2 hC2
   go_region_held3 (fun w'=>w'.cell? ⟨K,0,none⟩=some (.slice a1 nt c1)/\w'.cell? ⟨K,1,none⟩=some (.slice a2 fs.length c2)/\w'.cell? ⟨w.heap.size,1,none⟩=some (.int .i64 x.spec.f)/\w'.cell? ⟨w.heap.size,2,none⟩=some (.int .i64 x.spec.pc)/\w'.cell? ⟨w.heap.size,3,none⟩=some (.int .i64 x.spec.seen)/\w'.cell? ⟨w.heap.size,4,none⟩=some (.int .i64 x.spec.target))
    (first | exact⟨j0,j1,j2,j3,j4,j5⟩ | exact HS.out _ q | exact⟨hc.cells 0,hc.cells 1,aa (ak (ab HXX q) hne hr) 1,aa (ak (ab HXX q) hne hr) 2,aa (ak (ab HXX q) hne hr) 3,aa (ak (ab HXX q) hne hr) 4⟩)
    (first
     | (go_at_call 139;refine (specOk_any _ _ _ _ _ fs x.spec _ l.code l.nf (HFN.out _ q)).mono ?_;rintro e wz ⟨rfl,kd⟩;have q:=q.trans (kd.mono q.size))
     | (go_at_call 136;refine (bc _ (HC.out.mono q)).mono ?_;rintro e wy ⟨rfl,hc,hr⟩))
   go_wp2_with fail
   go_meet
   case rel=>exact⟨hc.iff ⟨fun q=>.inl ⟨HK2.out,q⟩,fun q=>q.elim (fun q=>q.2) (fun q=>absurd HK2.out q.1)⟩,(Rk.of q).trans hr⟩
  case neg=>
   have HK2:Hid (¬x.kind=2):=h2;have g2:(x.kind == 2)=false:=by simpa using h2
   have g44:=guard44;have e44:=fN x.spec zeroS;unfold zeroS at e44;dsimp only at e44
   clear h2;go_wp2_with fail
   refine (bc _ hC2).mono ?_;rintro e wy ⟨rfl,hc,hr⟩;clear x2;go_wp2_with fail
   go_meet
   case rel=>exact⟨hc.iff ⟨fun q=>.inr ⟨HK2.out,q⟩,fun q=>q.elim (fun q=>absurd q.1 HK2.out) (fun q=>q.2)⟩,hr⟩
 case rest=>
  obtain⟨hC3,hr⟩:=hcut.out;have hX3:=ak hX2 hne hr;have R3:=R2.trans hr;clear hcut hr x2 hX2 R2 hC2;have x3:=aa hX3;have hnfr:=hsm.1.1;have hnrc:=hsm.2.1;by_cases hbt:Btw (x.frames.length:Int) 1 4
  case neg=>
   have HC0:Hid (∀w',Below wc.heap.size wc w'->Calls Tryz.prog 45 #[.int .i64 x.frames.length,.int .i64 1,.int .i64 4] w' fun e w''=>e=.returned (.bool false)/\Below w'.heap.size w' w''):=fun w' _=>(a8 _ _ _ _).mono fun _ _ q=>⟨by rw[q.1,aw hbt],by rw[q.2];exact Below.refl _ _⟩
   have HS:Hid (∀w',Below wc.heap.size wc w'->w'.cell? ⟨w.heap.size,5,none⟩=some (.slice fa x.frames.length fc)/\w'.cell? ⟨w.heap.size,6,none⟩=some (.slice ra x.recs.length rc)/\w'.cell? ⟨K,2,none⟩=some (.int .i64 D.fn)):=fun w' q=>⟨aa (ab hX3 q) 5,aa (ab hX3 q) 6,(hC3.mono q).cells 2⟩
   have HN:Hid (¬eR fs D x):=fun q=>hbt (by have:=q.2.2.1;exact⟨by omega,by omega⟩)
   clear hbt;go_upto_region 6 with fail
   clear x3;refine au (by kernel_rfl) (by kernel_rfl) ?_;refine ae (v:=?_) (by kernel_rfl) ?_ ?_;rotate_left
   ·intro w' hC;obtain⟨j0,j1,j2⟩:=HS.out w' hC;go_simp;try with_reducible rfl
   try simp only[Act.put,sAr,sZe,sSu]
   refine ae (v:=.bool false) (by kernel_rfl) ?_ ?_
   ·intro w' hC;go_simp;refine (HC0.out _ hC).mono ?_;rintro e w'' ⟨rfl,hb2⟩;exact⟨rfl,hC.trans (hb2.mono hC.size)⟩
   try simp only[Act.put,sAr,sZe,sSu]
   iterate 2
    refine ae (v:=?_) (by kernel_rfl) ?_ ?_;rotate_left
    ·intro w' hC;obtain⟨j0,j1,j2⟩:=HS.out w' hC;go_simp;try with_reducible rfl
    try simp only[Act.put,sAr,sZe,sSu]
   iterate 4 go_big_quiet_skip
   iterate 2
    refine ae (v:=?_) (by kernel_rfl) ?_ ?_;rotate_left
    ·intro w' hC;obtain⟨j0,j1,j2⟩:=HS.out w' hC;go_simp;try with_reducible rfl
    try simp only[Act.put,sAr,sZe,sSu]
   iterate 11 go_big_quiet_skip
   refine ae (v:=?_) (by kernel_rfl) ?_ ?_;rotate_left
   ·intro w' hC;obtain⟨j0,j1,j2⟩:=HS.out w' hC;go_simp;try with_reducible rfl
   try simp only[Act.put,sAr,sZe,sSu]
   refine wpQuiet_nil ?_;intro w2 q2;have hCq:=hC3.mono q2;have k3:=hCq.cells;have k4:=hCq.free;go_wp2
   (try simp only[Exit.inBlock,Exit.then])
   refine bodyPost_ret (results_none rfl _ _ _) rfl ?_;exact⟨rfl,(hCq.set true).no HN.out,(R3.trans (Rk.of q2)).set _⟩
  have HC0:Hid (∀w',Below wc.heap.size wc w'->Calls Tryz.prog 45 #[.int .i64 x.frames.length,.int .i64 1,.int .i64 4] w' fun e w''=>e=.returned (.bool true)/\Below w'.heap.size w' w''):=fun w' _=>(a8 _ _ _ _).mono fun _ _ q=>⟨by rw[q.1,ay hbt],by rw[q.2];exact Below.refl _ _⟩
  have hz:0<x.frames.length:=by have:=hbt.1;omega
  obtain⟨bF,oF,la0,lc0,sa0,sc0,rfl,-,df,-⟩:=hfr 0 hz;have hbelc:=hC3.bel;rw[l.size] at hbelc;have df':=cell_later hbelc df;have HS:Hid (∀w',Below wc.heap.size wc w'->w'.cell? ⟨w.heap.size,5,none⟩=some (.slice (some ⟨bF,oF,none⟩) x.frames.length fc)/\w'.cell? ⟨w.heap.size,6,none⟩=some (.slice ra x.recs.length rc)/\w'.cell? ⟨K,2,none⟩=some (.int .i64 D.fn)/\w'.cell? ⟨bF,oF,none⟩=some (.int .i64 x.frames[0].fn)):=fun w' q=>⟨aa (ab hX3 q) 5,aa (ab hX3 q) 6,(hC3.mono q).cells 2,by simpa using cell_later q df'⟩
  have z1:(0:Int)<(x.frames.length:Int):=by omega
  have HBT:Hid (Btw (x.frames.length:Int) 1 4):=hbt;clear df df' hbelc hbt;by_cases h60:x.recs.length<=60
  case neg=>
   have g60:(60:Int)<(x.recs.length:Int):=by omega
   have HN:Hid (¬eR fs D x):=fun q=>h60 q.2.2.2.2.2.1
   clear h60;go_upto_region 6 with fail
   clear x3;refine au (by kernel_rfl) (by kernel_rfl) ?_;refine ae (v:=?_) (by kernel_rfl) ?_ ?_;rotate_left
   ·intro w' hC;obtain⟨j0,j1,j2,j3⟩:=HS.out w' hC;go_simp;try with_reducible rfl
   try simp only[Act.put,sAr,sZe,sSu]
   refine ae (v:=.bool true) (by kernel_rfl) ?_ ?_
   ·intro w' hC;go_simp;refine (HC0.out _ hC).mono ?_;rintro e w'' ⟨rfl,hb2⟩;exact⟨rfl,hC.trans (hb2.mono hC.size)⟩
   try simp only[Act.put,sAr,sZe,sSu]
   iterate 8
    refine ae (v:=?_) (by kernel_rfl) ?_ ?_;rotate_left
    ·intro w' hC;obtain⟨j0,j1,j2,j3⟩:=HS.out w' hC;go_simp;try with_reducible rfl
    try simp only[Act.put,sAr,sZe,sSu]
   iterate 11 go_big_quiet_skip
   refine ae (v:=?_) (by kernel_rfl) ?_ ?_;rotate_left
   ·intro w' hC;obtain⟨j0,j1,j2,j3⟩:=HS.out w' hC;go_simp;try with_reducible rfl
   try simp only[Act.put,sAr,sZe,sSu]
   refine wpQuiet_nil ?_;intro w2 q2;have hCq:=hC3.mono q2;have k3:=hCq.cells;have k4:=hCq.free;go_wp2
   (try simp only[Exit.inBlock,Exit.then])
   refine bodyPost_ret (results_none rfl _ _ _) rfl ?_;exact⟨rfl,(hCq.set true).no HN.out,(R3.trans (Rk.of q2)).set _⟩
  have g60:¬(60:Int)<(x.recs.length:Int):=by omega
  have H60:Hid (x.recs.length<=60):=h60;clear h60;by_cases hfn:x.frames[0].fn=D.fn
  case neg=>
   have g0:(x.frames[0].fn != D.fn)=true:=by simpa using hfn
   have HN:Hid (¬eR fs D x):=fun q=>by obtain⟨_,q⟩:=q.2.2.2.1;exact hfn q
   clear hfn;go_upto_region 6 with fail
   clear x3;refine au (by kernel_rfl) (by kernel_rfl) ?_;refine ae (v:=?_) (by kernel_rfl) ?_ ?_;rotate_left
   ·intro w' hC;obtain⟨j0,j1,j2,j3⟩:=HS.out w' hC;go_simp;try with_reducible rfl
   try simp only[Act.put,sAr,sZe,sSu]
   refine ae (v:=.bool true) (by kernel_rfl) ?_ ?_
   ·intro w' hC;go_simp;refine (HC0.out _ hC).mono ?_;rintro e w'' ⟨rfl,hb2⟩;exact⟨rfl,hC.trans (hb2.mono hC.size)⟩
   try simp only[Act.put,sAr,sZe,sSu]
   iterate 20
    refine ae (v:=?_) (by kernel_rfl) ?_ ?_;rotate_left
    ·intro w' hC;obtain⟨j0,j1,j2,j3⟩:=HS.out w' hC;go_simp;try with_reducible rfl
    try simp only[Act.put,sAr,sZe,sSu]
   refine wpQuiet_nil ?_;intro w2 q2;have hCq:=hC3.mono q2;have k3:=hCq.cells;have k4:=hCq.free;go_wp2
   (try simp only[Exit.inBlock,Exit.then])
   refine bodyPost_ret (results_none rfl _ _ _) rfl ?_;exact⟨rfl,(hCq.set true).no HN.out,(R3.trans (Rk.of q2)).set _⟩
  have g0:(x.frames[0].fn != D.fn)=false:=by simpa using hfn
  have HFN:Hid (x.frames[0].fn=D.fn):=hfn;clear hfn;go_upto_region 6 with fail
  clear x3;refine au (by kernel_rfl) (by kernel_rfl) ?_;refine ae (v:=?_) (by kernel_rfl) ?_ ?_;rotate_left
  ·intro w' hC;obtain⟨j0,j1,j2,j3⟩:=HS.out w' hC;go_simp;try with_reducible rfl
  try simp only[Act.put,sAr,sZe,sSu]
  refine ae (v:=.bool true) (by kernel_rfl) ?_ ?_
  ·intro w' hC;go_simp;refine (HC0.out _ hC).mono ?_;rintro e w'' ⟨rfl,hb2⟩;exact⟨rfl,hC.trans (hb2.mono hC.size)⟩
  try simp only[Act.put,sAr,sZe,sSu]
  iterate 20
   refine ae (v:=?_) (by kernel_rfl) ?_ ?_;rotate_left
   ·intro w' hC;obtain⟨j0,j1,j2,j3⟩:=HS.out w' hC;go_simp;try with_reducible rfl
   try simp only[Act.put,sAr,sZe,sSu]
  refine wpQuiet_nil ?_;intro w2 q2;have hC4:=hC3.mono q2;have hX4:=ab hX3 q2;have R4:=R3.trans (Rk.of q2);clear hC3 hX3 R3 HS HC0 q2 g0;have hz4:w.heap.size<w2.heap.size:=aq hX4;go_wp2;go_loopw [5] (fun i wr=>∃(k:Nat),k<=x.frames.length/\i=.int .i64 k/\Chk a1 a2 oa ea nt c1 c2 oc ec fs.length K D wK (((b || !pB (Btw x.kind 1 4)) || !pB (cj fs x)) || !pB (bJ fs D x.recs.length x.frames k)) wr/\wr.heap[w.heap.size]?=some (.cells #[.int .i64 x.kind,.int .i64 x.spec.f,.int .i64 x.spec.pc,.int .i64 x.spec.seen,.int .i64 x.spec.target,.slice (some ⟨bF,oF,none⟩) x.frames.length fc,.slice ra x.recs.length rc] 175 (0,0))/\Rk K w wr) (fun i _=>x.frames.length-(intOf i).toNat)
  case atStart=>exact⟨0,by omega,rfl,by rw[ay bJ.zero];simpa using hC4,hX4,R4⟩
  case round=>
   obtain⟨k,hk,rfl,hC,hX,hR⟩:=hrel;clear hC4 hX4 R4 hz4;by_cases hlt:k<x.frames.length
   case pos=>
    obtain⟨b',off,la,lc,sa,sc,hfa,-,d0,d1,d2,d3,p0,p1⟩:=hfr k hlt
    cases hfa;have hbel:=hC.bel;rw[l.size] at hbel;have e0:=cell_later hbel d0;have e1:=cell_later hbel d1;have e2:=cell_later hbel d2;have e3:=cell_later hbel d3;have hsk:=hsm.1.2 _ (n_l hlt);have hsl:=hsk.1.1;have hss:=hsk.2.1;have hwkr:K<wr.heap.size:=aq hC.blk;have hneF:wr.heap.size≠K:=by omega
    obtain⟨wF,hwF⟩:∃wF,wF=wr.alloc (.cells #[.int .i64 x.frames[k].fn,.int .i64 x.frames[k].pc,.slice la x.frames[k].locals.length lc,.slice sa x.frames[k].stack.length sc] 227):=⟨_,rfl⟩;have hbF:Below wr.heap.size wr wF:=by rw[hwF];exact gM.alloc nL _
    have hF1:wF.heap[wr.heap.size]?=some (.cells #[.int .i64 x.frames[k].fn,.int .i64 x.frames[k].pc,.slice la x.frames[k].locals.length lc,.slice sa x.frames[k].stack.length sc] 227 (0,0)):=by rw[hwF];exact ah _ _ _
    have hX1:=ab hX hbF;have hC1:=hC.mono hbF;have R1:Rk K wr wF:=Rk.of hbF;have x0:=aa hX;have xA:=aa (al hX (.cells #[.int .i64 x.frames[k].fn,.int .i64 x.frames[k].pc,.slice la x.frames[k].locals.length lc,.slice sa x.frames[k].stack.length sc] 227));have fA:=aa (ah wr #[.int .i64 x.frames[k].fn,.int .i64 x.frames[k].pc,.slice la x.frames[k].locals.length lc,.slice sa x.frames[k].stack.length sc] 227);have zk:(k:Int)<(x.frames.length:Int):=by omega
    clear d0 d1 d2 d3 hbel;go_wp2_with fail
    rw[<-hwF];clear hwF x0 xA fA e0 e1 e2 e3 hbF;refine (el la x.frames[k].locals lc x.recs.length hsk.1 p0 l hC1).mono ?_;rintro e w31 ⟨rfl,hC2,hr⟩;have hF2:=ak hF1 hneF hr;have hX2:=ak hX1 hne hr;have R2:=R1.trans hr;clear hC1 hF1 hX1 R1 hr;have xb:=aa hX2;have fb:=aa hF2;go_wp2_with fail
    refine (el sa x.frames[k].stack sc x.recs.length hsk.2 p1 l hC2).mono ?_;rintro e w32 ⟨rfl,hC3,hr⟩;have hF3:=ak hF2 hneF hr;have hX3:=ak hX2 hne hr;have R3:=R2.trans hr;clear hC2 hF2 hX2 R2 hr xb fb;obtain⟨i0,hi0,hz0,hz1,hz2⟩:=info_parts info46;have HSF:Hid (∀w',Below w32.heap.size w32 w'->w'.cell? ⟨wr.heap.size,0,none⟩=some (.int .i64 x.frames[k].fn)/\w'.cell? ⟨wr.heap.size,1,none⟩=some (.int .i64 x.frames[k].pc)/\w'.cell? ⟨wr.heap.size,2,none⟩=some (.slice la x.frames[k].locals.length lc)/\w'.cell? ⟨wr.heap.size,3,none⟩=some (.slice sa x.frames[k].stack.length sc)):=fun w' q=>⟨aa (ab hF3 q) 0,aa (ab hF3 q) 1,aa (ab hF3 q) 2,aa (ab hF3 q) 3⟩
    obtain⟨j0,j1,j2,j3⟩:=HSF.out _ gM;clear j0 j1 j2 j3;go_upto_region 14 with fail
    go_cut [7] from 84 to 96 (fun s7 wx=>∃g gl gs,s7=.pointer (some ⟨g,0,none⟩)/\wx.heap[g]?=some (.cells #[.int .i64 x.frames[k].fn,.int .i64 x.frames[k].pc,.slice (some ⟨gl,0,none⟩) x.frames[k].locals.length x.frames[k].locals.length,.slice (some ⟨gs,0,none⟩) x.frames[k].stack.length x.frames[k].stack.length] 163 (0,0))/\aO wx 0 (some ⟨gl,0,none⟩) (nils x.frames[k].locals.length)/\aO wx 0 (some ⟨gs,0,none⟩) (nils x.frames[k].stack.length)/\Below w32.heap.size w32 wx)
    case first=>
     have q:Below w32.heap.size w32 w32.drew:=gM.drew;have hh:=HSF.out _ q;refine fy (fun w':World=>w'.cell? ⟨wr.heap.size,0,none⟩=some (.int .i64 x.frames[k].fn)/\w'.cell? ⟨wr.heap.size,1,none⟩=some (.int .i64 x.frames[k].pc)/\w'.cell? ⟨wr.heap.size,2,none⟩=some (.slice la x.frames[k].locals.length lc)/\w'.cell? ⟨wr.heap.size,3,none⟩=some (.slice sa x.frames[k].stack.length sc)) (by kernel_rfl) ?_;refine aF (i:=0) (oi:=_) (v:=?_) rfl (by kernel_rfl) (by kernel_rfl) (by kernel_rfl) (fun _ _ _ h=>h) (by kernel_rfl) ?_ hh ?_;rotate_left
     ·intro w' hSw;obtain⟨j0,j1,j2,j3⟩:=hSw;go_simp;try with_reducible rfl
     simp only[Act.put,List.setIfInBounds_toArray]
     refine aF (i:=1) (oi:=_) (v:=?_) rfl (by kernel_rfl) (by kernel_rfl) (by kernel_rfl) (fun _ _ _ h=>h) (by kernel_rfl) ?_ hh ?_;rotate_left
     ·intro w' hSw;obtain⟨j0,j1,j2,j3⟩:=hSw;go_simp;try with_reducible rfl
     simp only[Act.put]
     refine aF (i:=2) (oi:=_) (v:=?_) rfl (by kernel_rfl) (by kernel_rfl) (by kernel_rfl) (fun _ _ _ h=>h) (by kernel_rfl) ?_ hh ?_;rotate_left
     ·intro w' hSw;obtain⟨j0,j1,j2,j3⟩:=hSw;go_simp;try with_reducible rfl
     simp only[Act.put]
     refine aF (i:=3) (oi:=_) (v:=?_) rfl (by kernel_rfl) (by kernel_rfl) (by kernel_rfl) (fun _ _ _ h=>h) (by kernel_rfl) ?_ hh ?_;rotate_left
     ·intro w' hSw;obtain⟨j0,j1,j2,j3⟩:=hSw;go_simp;try with_reducible rfl
     simp only[Act.put]
     refine aF (i:=4) (oi:=_) (v:=?_) rfl (by kernel_rfl) (by kernel_rfl) (by kernel_rfl) (fun _ _ _ h=>h) (by kernel_rfl) ?_ hh ?_;rotate_left
     ·intro w' hSw;obtain⟨j0,j1,j2,j3⟩:=hSw;go_simp;try with_reducible rfl
     simp only[Act.put]
     refine aF (i:=5) (oi:=_) (v:=?_) rfl (by kernel_rfl) (by kernel_rfl) (by kernel_rfl) (fun _ _ _ h=>h) (by kernel_rfl) ?_ hh ?_;rotate_left
     ·intro w' hSw;obtain⟨j0,j1,j2,j3⟩:=hSw;go_simp;try with_reducible rfl
     simp only[Act.put]
     refine aF (i:=6) (oi:=_) (v:=?_) rfl (by kernel_rfl) (by kernel_rfl) (by kernel_rfl) (fun _ _ _ h=>h) (by kernel_rfl) ?_ hh ?_;rotate_left
     ·intro w' hSw;obtain⟨j0,j1,j2,j3⟩:=hSw;go_simp;try with_reducible rfl
     simp only[Act.put]
     refine aF (i:=8) (oi:=_) (v:=?_) rfl (by kernel_rfl) (by kernel_rfl) (by kernel_rfl) (fun _ _ _ h=>h) (by kernel_rfl) ?_ hh ?_;rotate_left
     ·intro w' hSw;obtain⟨j0,j1,j2,j3⟩:=hSw;go_simp;try with_reducible rfl
     simp only[Act.put]
     refine aF (i:=9) (oi:=_) (v:=?_) rfl (by kernel_rfl) (by kernel_rfl) (by kernel_rfl) (fun _ _ _ h=>h) (by kernel_rfl) ?_ hh ?_;rotate_left
     ·intro w' hSw;obtain⟨j0,j1,j2,j3⟩:=hSw;go_simp;try with_reducible rfl
     simp only[Act.put]
     refine aF (i:=10) (oi:=_) (v:=?_) rfl (by kernel_rfl) (by kernel_rfl) (by kernel_rfl) (fun _ _ _ h=>h) (by kernel_rfl) ?_ hh ?_;rotate_left
     ·intro w' hSw;obtain⟨j0,j1,j2,j3⟩:=hSw;go_simp;try with_reducible rfl
     simp only[Act.put]
     refine wpAnyH_all (rs:=[7,11,13]) (by kernel_rfl) (by decide) ?_;intro i hi;simp only[List.mem_cons,List.not_mem_nil,or_false] at hi
     rcases hi with rfl | rfl | rfl
     ·refine dq (.tmp 90) (.tmp 90) 156 (some 91) (by kernel_rfl) w32.heap.size 46 i0 (.agg #[.int .i64 0,.int .i64 0,.string ByteArray.empty]) 3 Tryz.underlying156 hi0 hz0 hz1 x.frames[k].locals.length (by kernel_rfl) (by kernel_rfl) (by rw[hz2];omega) (by unfold maxLen;omega) q.size ?_;intro wmL hown hgrow;have kd:Below w32.drew.heap.size w32.drew wmL:=bn hgrow;have hvL:=cA hown;have hltL:w32.drew.heap.size<wmL.heap.size:=dn hown;have q:=q.trans (kd.mono q.size);have hh:=HSF.out _ q;refine⟨hh,?_⟩;clear kd hown hgrow;try simp only[Act.put]
      refine wpAnyH_all (rs:=[11,13]) (by kernel_rfl) (by decide) ?_;intro i hi;simp only[List.mem_cons,List.not_mem_nil,or_false] at hi
      rcases hi with rfl | rfl
      ·refine dq (.tmp 94) (.tmp 94) 156 (some 95) (by kernel_rfl) w32.heap.size 46 i0 (.agg #[.int .i64 0,.int .i64 0,.string ByteArray.empty]) 3 Tryz.underlying156 hi0 hz0 hz1 x.frames[k].stack.length (by kernel_rfl) (by kernel_rfl) (by rw[hz2];omega) (by unfold maxLen;omega) q.size ?_;intro wmS hown hgrow;have kd:Below wmL.heap.size wmL wmS:=bn hgrow;have hvS:=cA hown;have hltS:wmL.heap.size<wmS.heap.size:=dn hown;have hvL:=hvL.mono kd;have hltL:=Nat.lt_of_lt_of_le hltL kd.size;have q:=q.trans (kd.mono q.size);have hh:=HSF.out _ q;refine⟨hh,?_⟩;clear kd hown hgrow;try simp only[Act.put]
       refine aF (i:=12) (oi:=_) (v:=?_) rfl (by kernel_rfl) (by kernel_rfl) (by kernel_rfl) (fun _ _ _ h=>h) (by kernel_rfl) ?_ hh ?_;rotate_left
       ·intro w' hSw;obtain⟨j0,j1,j2,j3⟩:=hSw;go_simp;try with_reducible rfl
       simp only[Act.put]
       refine wpAnyH_all (rs:=[13]) (by kernel_rfl) (by decide) ?_;intro i hi;simp only[List.mem_cons,List.not_mem_nil,or_false] at hi
       subst hi;refine eO (o:=_) rfl (fun K hK=>?_);go_simp;have hk:(wmS.alloc (.cells #[.int .i64 0,.int .i64 0,.slice none 0 0,.slice none 0 0] 163)).heap[wmS.heap.size]?=some (.cells #[.int .i64 0,.int .i64 0,.slice none 0 0,.slice none 0 0] 163 (0,0)):=ah wmS #[.int .i64 0,.int .i64 0,.slice none 0 0,.slice none 0 0] 163;have hgl:w32.heap.size<=wmS.heap.size:=q.size;have q0:=q;have hvL0:=hvL;have hvS0:=hvS;have kd:Below wmS.heap.size wmS (wmS.alloc (.cells #[.int .i64 0,.int .i64 0,.slice none 0 0,.slice none 0 0] 163)):=gM.alloc nL _;have hneL:=Nat.ne_of_lt hltL;have hvL:=hvL.mono kd;have hltL:=Nat.lt_of_lt_of_le hltL kd.size;have hneS:=Nat.ne_of_lt hltS;have hvS:=hvS.mono kd;have hltS:=Nat.lt_of_lt_of_le hltS kd.size;have q:=q.alloc q.size (.cells #[.int .i64 0,.int .i64 0,.slice none 0 0,.slice none 0 0] 163);have hh:=HSF.out _ q;refine hK.out _ _ hh ?_;clear hK K kd;try simp only[Act.put]
       have hc:=aa hk;have hf:=am hk;refine dB (i:=14) (o:=_) (by kernel_rfl) rfl (fun K hK=>?_);go_simp;refine hK.out _ _ (HSF.out _ (q0.alloc q0.size _)) ?_;clear hK K;try simp only[Act.put]
       refine wpAnyH_done (by kernel_rfl) ?_ _;go_wp2_with fail
       go_meet
       case rel=>exact⟨_,_,_,rfl,ah _ _ _,hvL0.mono (gM.alloc nL _),hvS0.mono (gM.alloc nL _),q0.alloc q0.size _⟩
      ·refine eO (o:=_) rfl (fun K hK=>?_);go_simp;have hk:(wmL.alloc (.cells #[.int .i64 0,.int .i64 0,.slice none 0 0,.slice none 0 0] 163)).heap[wmL.heap.size]?=some (.cells #[.int .i64 0,.int .i64 0,.slice none 0 0,.slice none 0 0] 163 (0,0)):=ah wmL #[.int .i64 0,.int .i64 0,.slice none 0 0,.slice none 0 0] 163;have hgl:w32.heap.size<=wmL.heap.size:=q.size;have kd:Below wmL.heap.size wmL (wmL.alloc (.cells #[.int .i64 0,.int .i64 0,.slice none 0 0,.slice none 0 0] 163)):=gM.alloc nL _;have hneL:=Nat.ne_of_lt hltL;have hvL:=hvL.mono kd;have hltL:=Nat.lt_of_lt_of_le hltL kd.size;have q:=q.alloc q.size (.cells #[.int .i64 0,.int .i64 0,.slice none 0 0,.slice none 0 0] 163);have hh:=HSF.out _ q;refine hK.out _ _ hh ?_;clear hK K kd;try simp only[Act.put]
       change wpAnyH _ _ _ _ _ _ _ _ (wmL.alloc (.cells #[.int .i64 0,.int .i64 0,.slice none 0 0,.slice none 0 0] 163))
       obtain⟨wB,hwB⟩:∃wB,wB=(wmL.alloc (.cells #[.int .i64 0,.int .i64 0,.slice none 0 0,.slice none 0 0] 163)):=⟨_,rfl⟩;rw[<-hwB] at hk q hvL hltL ⊢;have hh:=HSF.out _ q;clear hwB;refine wpAnyH_all (rs:=[11]) (by kernel_rfl) (by decide) ?_;intro i hi;simp only[List.mem_cons,List.not_mem_nil,or_false] at hi
       subst hi;refine dq (.tmp 94) (.tmp 94) 156 (some 95) (by kernel_rfl) w32.heap.size 46 i0 (.agg #[.int .i64 0,.int .i64 0,.string ByteArray.empty]) 3 Tryz.underlying156 hi0 hz0 hz1 x.frames[k].stack.length (by kernel_rfl) (by kernel_rfl) (by rw[hz2];omega) (by unfold maxLen;omega) q.size ?_;intro wmS hown hgrow;have kd:Below wB.heap.size wB wmS:=bn hgrow;have hvS:=cA hown;have hltS:wB.heap.size<wmS.heap.size:=dn hown;have hvL:=hvL.mono kd;have hltL:=Nat.lt_of_lt_of_le hltL kd.size;have hneS:wB.heap.size≠_:=Nat.ne_of_gt (aq hk);have hk:=ab hk kd;have q:=q.trans (kd.mono q.size);have hh:=HSF.out _ q;refine⟨hh,?_⟩;clear kd hown hgrow;try simp only[Act.put]
       refine aF (i:=12) (oi:=_) (v:=?_) rfl (by kernel_rfl) (by kernel_rfl) (by kernel_rfl) (fun _ _ _ h=>h) (by kernel_rfl) ?_ hh ?_;rotate_left
       ·intro w' hSw;obtain⟨j0,j1,j2,j3⟩:=hSw;go_simp;try with_reducible rfl
       simp only[Act.put]
       have hc:=aa hk;have hf:=am hk;refine dB (i:=14) (o:=_) (by kernel_rfl) rfl (fun K hK=>?_);go_simp;refine hK.out _ _ (HSF.out _ ((((q.setCell hgl _).setCell hgl _).setCell hgl _).setCell hgl _)) ?_;clear hK K;try simp only[Act.put]
       refine wpAnyH_done (by kernel_rfl) ?_ _;go_wp2_with fail
       go_meet
       case rel=>exact⟨_,_,_,rfl,ey hk,cw hvL hneL,cw hvS hneS,((((q.setCell hgl _).setCell hgl _).setCell hgl _).setCell hgl _)⟩
     ·refine dq (.tmp 94) (.tmp 94) 156 (some 95) (by kernel_rfl) w32.heap.size 46 i0 (.agg #[.int .i64 0,.int .i64 0,.string ByteArray.empty]) 3 Tryz.underlying156 hi0 hz0 hz1 x.frames[k].stack.length (by kernel_rfl) (by kernel_rfl) (by rw[hz2];omega) (by unfold maxLen;omega) q.size ?_;intro wmS hown hgrow;have kd:Below w32.drew.heap.size w32.drew wmS:=bn hgrow;have hvS:=cA hown;have hltS:w32.drew.heap.size<wmS.heap.size:=dn hown;have q:=q.trans (kd.mono q.size);have hh:=HSF.out _ q;refine⟨hh,?_⟩;clear kd hown hgrow;try simp only[Act.put]
      refine wpAnyH_all (rs:=[7,13]) (by kernel_rfl) (by decide) ?_;intro i hi;simp only[List.mem_cons,List.not_mem_nil,or_false] at hi
      rcases hi with rfl | rfl
      ·refine dq (.tmp 90) (.tmp 90) 156 (some 91) (by kernel_rfl) w32.heap.size 46 i0 (.agg #[.int .i64 0,.int .i64 0,.string ByteArray.empty]) 3 Tryz.underlying156 hi0 hz0 hz1 x.frames[k].locals.length (by kernel_rfl) (by kernel_rfl) (by rw[hz2];omega) (by unfold maxLen;omega) q.size ?_;intro wmL hown hgrow;have kd:Below wmS.heap.size wmS wmL:=bn hgrow;have hvL:=cA hown;have hltL:wmS.heap.size<wmL.heap.size:=dn hown;have hvS:=hvS.mono kd;have hltS:=Nat.lt_of_lt_of_le hltS kd.size;have q:=q.trans (kd.mono q.size);have hh:=HSF.out _ q;refine⟨hh,?_⟩;clear kd hown hgrow;try simp only[Act.put]
       refine aF (i:=12) (oi:=_) (v:=?_) rfl (by kernel_rfl) (by kernel_rfl) (by kernel_rfl) (fun _ _ _ h=>h) (by kernel_rfl) ?_ hh ?_;rotate_left
       ·intro w' hSw;obtain⟨j0,j1,j2,j3⟩:=hSw;go_simp;try with_reducible rfl
       simp only[Act.put]
       refine wpAnyH_all (rs:=[13]) (by kernel_rfl) (by decide) ?_;intro i hi;simp only[List.mem_cons,List.not_mem_nil,or_false] at hi
       subst hi;refine eO (o:=_) rfl (fun K hK=>?_);go_simp;have hk:(wmL.alloc (.cells #[.int .i64 0,.int .i64 0,.slice none 0 0,.slice none 0 0] 163)).heap[wmL.heap.size]?=some (.cells #[.int .i64 0,.int .i64 0,.slice none 0 0,.slice none 0 0] 163 (0,0)):=ah wmL #[.int .i64 0,.int .i64 0,.slice none 0 0,.slice none 0 0] 163;have hgl:w32.heap.size<=wmL.heap.size:=q.size;have q0:=q;have hvL0:=hvL;have hvS0:=hvS;have kd:Below wmL.heap.size wmL (wmL.alloc (.cells #[.int .i64 0,.int .i64 0,.slice none 0 0,.slice none 0 0] 163)):=gM.alloc nL _;have hneL:=Nat.ne_of_lt hltL;have hvL:=hvL.mono kd;have hltL:=Nat.lt_of_lt_of_le hltL kd.size;have hneS:=Nat.ne_of_lt hltS;have hvS:=hvS.mono kd;have hltS:=Nat.lt_of_lt_of_le hltS kd.size;have q:=q.alloc q.size (.cells #[.int .i64 0,.int .i64 0,.slice none 0 0,.slice none 0 0] 163);have hh:=HSF.out _ q;refine hK.out _ _ hh ?_;clear hK K kd;try simp only[Act.put]
       have hc:=aa hk;have hf:=am hk;refine dB (i:=14) (o:=_) (by kernel_rfl) rfl (fun K hK=>?_);go_simp;refine hK.out _ _ (HSF.out _ (q0.alloc q0.size _)) ?_;clear hK K;try simp only[Act.put]
       refine wpAnyH_done (by kernel_rfl) ?_ _;go_wp2_with fail
       go_meet
       case rel=>exact⟨_,_,_,rfl,ah _ _ _,hvL0.mono (gM.alloc nL _),hvS0.mono (gM.alloc nL _),q0.alloc q0.size _⟩
      ·refine eO (o:=_) rfl (fun K hK=>?_);go_simp;have hk:(wmS.alloc (.cells #[.int .i64 0,.int .i64 0,.slice none 0 0,.slice none 0 0] 163)).heap[wmS.heap.size]?=some (.cells #[.int .i64 0,.int .i64 0,.slice none 0 0,.slice none 0 0] 163 (0,0)):=ah wmS #[.int .i64 0,.int .i64 0,.slice none 0 0,.slice none 0 0] 163;have hgl:w32.heap.size<=wmS.heap.size:=q.size;have kd:Below wmS.heap.size wmS (wmS.alloc (.cells #[.int .i64 0,.int .i64 0,.slice none 0 0,.slice none 0 0] 163)):=gM.alloc nL _;have hneS:=Nat.ne_of_lt hltS;have hvS:=hvS.mono kd;have hltS:=Nat.lt_of_lt_of_le hltS kd.size;have q:=q.alloc q.size (.cells #[.int .i64 0,.int .i64 0,.slice none 0 0,.slice none 0 0] 163);have hh:=HSF.out _ q;refine hK.out _ _ hh ?_;clear hK K kd;try simp only[Act.put]
       change wpAnyH _ _ _ _ _ _ _ _ (wmS.alloc (.cells #[.int .i64 0,.int .i64 0,.slice none 0 0,.slice none 0 0] 163))
       obtain⟨wB,hwB⟩:∃wB,wB=(wmS.alloc (.cells #[.int .i64 0,.int .i64 0,.slice none 0 0,.slice none 0 0] 163)):=⟨_,rfl⟩;rw[<-hwB] at hk q hvS hltS ⊢;have hh:=HSF.out _ q;clear hwB;refine wpAnyH_all (rs:=[7]) (by kernel_rfl) (by decide) ?_;intro i hi;simp only[List.mem_cons,List.not_mem_nil,or_false] at hi
       subst hi;refine dq (.tmp 90) (.tmp 90) 156 (some 91) (by kernel_rfl) w32.heap.size 46 i0 (.agg #[.int .i64 0,.int .i64 0,.string ByteArray.empty]) 3 Tryz.underlying156 hi0 hz0 hz1 x.frames[k].locals.length (by kernel_rfl) (by kernel_rfl) (by rw[hz2];omega) (by unfold maxLen;omega) q.size ?_;intro wmL hown hgrow;have kd:Below wB.heap.size wB wmL:=bn hgrow;have hvL:=cA hown;have hltL:wB.heap.size<wmL.heap.size:=dn hown;have hvS:=hvS.mono kd;have hltS:=Nat.lt_of_lt_of_le hltS kd.size;have hneL:wB.heap.size≠_:=Nat.ne_of_gt (aq hk);have hk:=ab hk kd;have q:=q.trans (kd.mono q.size);have hh:=HSF.out _ q;refine⟨hh,?_⟩;clear kd hown hgrow;try simp only[Act.put]
       refine aF (i:=12) (oi:=_) (v:=?_) rfl (by kernel_rfl) (by kernel_rfl) (by kernel_rfl) (fun _ _ _ h=>h) (by kernel_rfl) ?_ hh ?_;rotate_left
       ·intro w' hSw;obtain⟨j0,j1,j2,j3⟩:=hSw;go_simp;try with_reducible rfl
       simp only[Act.put]
       have hc:=aa hk;have hf:=am hk;refine dB (i:=14) (o:=_) (by kernel_rfl) rfl (fun K hK=>?_);go_simp;refine hK.out _ _ (HSF.out _ ((((q.setCell hgl _).setCell hgl _).setCell hgl _).setCell hgl _)) ?_;clear hK K;try simp only[Act.put]
       refine wpAnyH_done (by kernel_rfl) ?_ _;go_wp2_with fail
       go_meet
       case rel=>exact⟨_,_,_,rfl,ey hk,cw hvL hneL,cw hvS hneS,((((q.setCell hgl _).setCell hgl _).setCell hgl _).setCell hgl _)⟩
     ·refine eO (o:=_) rfl (fun K hK=>?_);go_simp;have hk:(w32.drew.alloc (.cells #[.int .i64 0,.int .i64 0,.slice none 0 0,.slice none 0 0] 163)).heap[w32.heap.size]?=some (.cells #[.int .i64 0,.int .i64 0,.slice none 0 0,.slice none 0 0] 163 (0,0)):=ah w32.drew #[.int .i64 0,.int .i64 0,.slice none 0 0,.slice none 0 0] 163;have hgl:w32.heap.size<=w32.heap.size:=q.size;have kd:Below w32.drew.heap.size w32.drew (w32.drew.alloc (.cells #[.int .i64 0,.int .i64 0,.slice none 0 0,.slice none 0 0] 163)):=gM.alloc nL _;have q:=q.alloc q.size (.cells #[.int .i64 0,.int .i64 0,.slice none 0 0,.slice none 0 0] 163);have hh:=HSF.out _ q;refine hK.out _ _ hh ?_;clear hK K kd;try simp only[Act.put]
      change wpAnyH _ _ _ _ _ _ _ _ (w32.drew.alloc (.cells #[.int .i64 0,.int .i64 0,.slice none 0 0,.slice none 0 0] 163))
      obtain⟨wB,hwB⟩:∃wB,wB=(w32.drew.alloc (.cells #[.int .i64 0,.int .i64 0,.slice none 0 0,.slice none 0 0] 163)):=⟨_,rfl⟩;rw[<-hwB] at hk q ⊢;have hh:=HSF.out _ q;clear hwB;refine wpAnyH_all (rs:=[7,11]) (by kernel_rfl) (by decide) ?_;intro i hi;simp only[List.mem_cons,List.not_mem_nil,or_false] at hi
      rcases hi with rfl | rfl
      ·refine dq (.tmp 90) (.tmp 90) 156 (some 91) (by kernel_rfl) w32.heap.size 46 i0 (.agg #[.int .i64 0,.int .i64 0,.string ByteArray.empty]) 3 Tryz.underlying156 hi0 hz0 hz1 x.frames[k].locals.length (by kernel_rfl) (by kernel_rfl) (by rw[hz2];omega) (by unfold maxLen;omega) q.size ?_;intro wmL hown hgrow;have kd:Below wB.heap.size wB wmL:=bn hgrow;have hvL:=cA hown;have hltL:wB.heap.size<wmL.heap.size:=dn hown;have hneL:wB.heap.size≠_:=Nat.ne_of_gt (aq hk);have hk:=ab hk kd;have q:=q.trans (kd.mono q.size);have hh:=HSF.out _ q;refine⟨hh,?_⟩;clear kd hown hgrow;try simp only[Act.put]
       refine wpAnyH_all (rs:=[11]) (by kernel_rfl) (by decide) ?_;intro i hi;simp only[List.mem_cons,List.not_mem_nil,or_false] at hi
       subst hi;refine dq (.tmp 94) (.tmp 94) 156 (some 95) (by kernel_rfl) w32.heap.size 46 i0 (.agg #[.int .i64 0,.int .i64 0,.string ByteArray.empty]) 3 Tryz.underlying156 hi0 hz0 hz1 x.frames[k].stack.length (by kernel_rfl) (by kernel_rfl) (by rw[hz2];omega) (by unfold maxLen;omega) q.size ?_;intro wmS hown hgrow;have kd:Below wmL.heap.size wmL wmS:=bn hgrow;have hvS:=cA hown;have hltS:wmL.heap.size<wmS.heap.size:=dn hown;have hvL:=hvL.mono kd;have hltL:=Nat.lt_of_lt_of_le hltL kd.size;have hneS:wmL.heap.size≠_:=Nat.ne_of_gt (aq hk);have hk:=ab hk kd;have q:=q.trans (kd.mono q.size);have hh:=HSF.out _ q;refine⟨hh,?_⟩;clear kd hown hgrow;try simp only[Act.put]
       refine aF (i:=12) (oi:=_) (v:=?_) rfl (by kernel_rfl) (by kernel_rfl) (by kernel_rfl) (fun _ _ _ h=>h) (by kernel_rfl) ?_ hh ?_;rotate_left
       ·intro w' hSw;obtain⟨j0,j1,j2,j3⟩:=hSw;go_simp;try with_reducible rfl
       simp only[Act.put]
       have hc:=aa hk;have hf:=am hk;refine dB (i:=14) (o:=_) (by kernel_rfl) rfl (fun K hK=>?_);go_simp;refine hK.out _ _ (HSF.out _ ((((q.setCell hgl _).setCell hgl _).setCell hgl _).setCell hgl _)) ?_;clear hK K;try simp only[Act.put]
       refine wpAnyH_done (by kernel_rfl) ?_ _;go_wp2_with fail
       go_meet
       case rel=>exact⟨_,_,_,rfl,ey hk,cw hvL hneL,cw hvS hneS,((((q.setCell hgl _).setCell hgl _).setCell hgl _).setCell hgl _)⟩
      ·refine dq (.tmp 94) (.tmp 94) 156 (some 95) (by kernel_rfl) w32.heap.size 46 i0 (.agg #[.int .i64 0,.int .i64 0,.string ByteArray.empty]) 3 Tryz.underlying156 hi0 hz0 hz1 x.frames[k].stack.length (by kernel_rfl) (by kernel_rfl) (by rw[hz2];omega) (by unfold maxLen;omega) q.size ?_;intro wmS hown hgrow;have kd:Below wB.heap.size wB wmS:=bn hgrow;have hvS:=cA hown;have hltS:wB.heap.size<wmS.heap.size:=dn hown;have hneS:wB.heap.size≠_:=Nat.ne_of_gt (aq hk);have hk:=ab hk kd;have q:=q.trans (kd.mono q.size);have hh:=HSF.out _ q;refine⟨hh,?_⟩;clear kd hown hgrow;try simp only[Act.put]
       refine wpAnyH_all (rs:=[7]) (by kernel_rfl) (by decide) ?_;intro i hi;simp only[List.mem_cons,List.not_mem_nil,or_false] at hi
       subst hi;refine dq (.tmp 90) (.tmp 90) 156 (some 91) (by kernel_rfl) w32.heap.size 46 i0 (.agg #[.int .i64 0,.int .i64 0,.string ByteArray.empty]) 3 Tryz.underlying156 hi0 hz0 hz1 x.frames[k].locals.length (by kernel_rfl) (by kernel_rfl) (by rw[hz2];omega) (by unfold maxLen;omega) q.size ?_;intro wmL hown hgrow;have kd:Below wmS.heap.size wmS wmL:=bn hgrow;have hvL:=cA hown;have hltL:wmS.heap.size<wmL.heap.size:=dn hown;have hvS:=hvS.mono kd;have hltS:=Nat.lt_of_lt_of_le hltS kd.size;have hneL:wmS.heap.size≠_:=Nat.ne_of_gt (aq hk);have hk:=ab hk kd;have q:=q.trans (kd.mono q.size);have hh:=HSF.out _ q;refine⟨hh,?_⟩;clear kd hown hgrow;try simp only[Act.put]
       refine aF (i:=12) (oi:=_) (v:=?_) rfl (by kernel_rfl) (by kernel_rfl) (by kernel_rfl) (fun _ _ _ h=>h) (by kernel_rfl) ?_ hh ?_;rotate_left
       ·intro w' hSw;obtain⟨j0,j1,j2,j3⟩:=hSw;go_simp;try with_reducible rfl
       simp only[Act.put]
       have hc:=aa hk;have hf:=am hk;refine dB (i:=14) (o:=_) (by kernel_rfl) rfl (fun K hK=>?_);go_simp;refine hK.out _ _ (HSF.out _ ((((q.setCell hgl _).setCell hgl _).setCell hgl _).setCell hgl _)) ?_;clear hK K;try simp only[Act.put]
       refine wpAnyH_done (by kernel_rfl) ?_ _;go_wp2_with fail
       go_meet
       case rel=>exact⟨_,_,_,rfl,ey hk,cw hvL hneL,cw hvS hneS,((((q.setCell hgl _).setCell hgl _).setCell hgl _).setCell hgl _)⟩
    case rest=>
     obtain⟨g,gl,gs,rfl,hg,hvL,hvS,hq⟩:=hcut;have hC4:=hC3.mono hq;have hX4:=ab hX3 hq;have R4:=R3.trans (Rk.of hq);clear hC3 hX3 R3 hF3 HSF hi0 hz0 hz1 hz2;have hneg:g≠K:=fun e=>by
      have h1:=hC4.blk;rw[<-e,hg] at h1;simp at h1
     obtain⟨lb,hlb⟩:∃lb,lb=decide ((k:Int)=(x.frames.length:Int)-1):=⟨_,rfl⟩;have hw1:IntKind.i64.wrap ((x.frames.length:Int)-1)=(x.frames.length:Int)-1:=by rw[IntKind.wrap_i64];omega
     have HR1:Hid (((k:Int) == IntKind.i64.wrap ((x.frames.length:Int)-1))=lb):=by
      show _=_
      rw[hw1,hlb,Bool.eq_iff_iff];simp
     have HR2:Hid (((k:Int) == (x.frames.length:Int)-1)=lb):=by
      show _=_
      rw[hlb,Bool.eq_iff_iff];simp
     have HLB:Hid (lb=decide ((k:Int)=(x.frames.length:Int)-1)):=hlb;clear hlb;have HC:Hid (Chk a1 a2 oa ea nt c1 c2 oc ec fs.length K D wK _ wc):=hC4;have HS:Hid (∀w',Below wc.heap.size wc w'->w'.cell? ⟨K,0,none⟩=some (.slice a1 nt c1)/\w'.cell? ⟨K,1,none⟩=some (.slice a2 fs.length c2)/\w'.cell? ⟨g,0,none⟩=some (.int .i64 x.frames[k].fn)/\w'.cell? ⟨g,1,none⟩=some (.int .i64 x.frames[k].pc)/\w'.cell? ⟨g,2,none⟩=some (.slice (some ⟨gl,0,none⟩) x.frames[k].locals.length x.frames[k].locals.length)/\w'.cell? ⟨g,3,none⟩=some (.slice (some ⟨gs,0,none⟩) x.frames[k].stack.length x.frames[k].stack.length)):=fun w' q=>⟨(HC.out.mono q).cells 0,(HC.out.mono q).cells 1,aa (ab hg q) 0,aa (ab hg q) 1,aa (ab hg q) 2,aa (ab hg q) 3⟩
     have HFR:Hid (∀(last:Bool) w',Below wc.heap.size wc w'->Calls Tryz.prog 89 #[.agg #[.slice a1 nt c1,.slice a2 fs.length c2],.agg #[.int .i64 x.frames[k].fn,.int .i64 x.frames[k].pc,.slice (some ⟨gl,0,none⟩) x.frames[k].locals.length x.frames[k].locals.length,.slice (some ⟨gs,0,none⟩) x.frames[k].stack.length x.frames[k].stack.length],.int .i64 0,.bool last] w' fun e w''=>e=.returned (.bool (pB (Fits fs x.frames[k].fn x.frames[k].pc x.frames[k].locals.length x.frames[k].stack.length last)))/\Below w'.heap.size w' w''):=fun last w' q=>frB_any _ _ gl gs _ _ last l.nf (l.at (HC.out.mono q)).1 l.fine hsl hss (hvL.mono q) (hvS.mono q)
     obtain⟨j0,j1,j2,j3,j4,j5⟩:=HS.out _ gM;have q:Below wc.heap.size wc wc.drew:=gM.drew;have HG:=hg;clear hC4 hg hvL hvS;go_upto_region 15 with fail
     go_region_held3 (fun w'=>w'.cell? ⟨K,0,none⟩=some (.slice a1 nt c1)/\w'.cell? ⟨K,1,none⟩=some (.slice a2 fs.length c2)/\w'.cell? ⟨g,0,none⟩=some (.int .i64 x.frames[k].fn)/\w'.cell? ⟨g,1,none⟩=some (.int .i64 x.frames[k].pc)/\w'.cell? ⟨g,2,none⟩=some (.slice (some ⟨gl,0,none⟩) x.frames[k].locals.length x.frames[k].locals.length)/\w'.cell? ⟨g,3,none⟩=some (.slice (some ⟨gs,0,none⟩) x.frames[k].stack.length x.frames[k].stack.length))
      (first | exact⟨j0,j1,j2,j3,j4,j5⟩ | exact HS.out _ q | exact⟨hc.cells 0,hc.cells 1,aa (ak (ab HG q) hneg hr) 0,aa (ak (ab HG q) hneg hr) 1,aa (ak (ab HG q) hneg hr) 2,aa (ak (ab HG q) hneg hr) 3⟩)
      (first
       | (go_at_call 89;(try rw[HR1.out]);(try rw[HR2.out]);refine (HFR.out _ _ q).mono ?_;rintro e wz ⟨rfl,kd⟩;have q:=q.trans (kd.mono q.size))
       | (go_at_call 136;refine (bc _ (HC.out.mono q)).mono ?_;rintro e wy ⟨rfl,hc,hr⟩))
     have hX5:=ak (ab hX4 q) hne hr;have R5:=(R4.trans (Rk.of q)).trans hr;have hC5:Chk a1 a2 oa ea nt c1 c2 oc ec fs.length K D wK (((b || !pB (Btw x.kind 1 4)) || !pB (cj fs x)) || !pB (bJ fs D x.recs.length x.frames (k+1))) wy:=hc.both.both.both.iff ⟨fun q=>(bJ.more hlt).1 ⟨q.1,by rw[<-HLB.out];exact⟨q.2.2.2,q.2.1,q.2.2.1⟩⟩,fun q=>by
      have q':=(bJ.more hlt).2 q;rw[<-HLB.out] at q';exact⟨q'.1,q'.2.2.1,q'.2.2.2,q'.2.1⟩⟩
     clear HS HC HFR HG hc hr j0 j1 j2 j3 j4 j5 HR1 HR2 hw1;go_wp2;go_roundw
     case rel=>exact⟨k+1,by omega,by go_num,hC5,hX5,hR.trans R5⟩
     case measure=>simp[intOf];omega
   obtain rfl:k=x.frames.length:=by omega
   have z2:¬(x.frames.length:Int)<(x.frames.length:Int):=by omega
   clear hlt;go_wp2;obtain⟨wo,rfl⟩:∃wo,wo=wr:=⟨_,rfl⟩;go_loopw [8] (fun i wr=>∃(j:Nat),j<=x.recs.length/\i=.int .i64 j/\Chk a1 a2 oa ea nt c1 c2 oc ec fs.length K D wK ((((b || !pB (Btw x.kind 1 4)) || !pB (cj fs x)) || !pB (bJ fs D x.recs.length x.frames x.frames.length)) || !pB (dH fs.length D x.recs.length x.recs j)) wr/\wr.heap[w.heap.size]?=some (.cells #[.int .i64 x.kind,.int .i64 x.spec.f,.int .i64 x.spec.pc,.int .i64 x.spec.seen,.int .i64 x.spec.target,.slice (some ⟨bF,oF,none⟩) x.frames.length fc,.slice ra x.recs.length rc] 175 (0,0))/\Rk K w wr) (fun i _=>x.recs.length-(intOf i).toNat)
   case atStart=>exact⟨0,by omega,rfl,by rw[ay dH.zero];simpa using hC,hX,hR⟩
   case round=>
    obtain⟨j,hj,rfl,hC2,hX2,hR2⟩:=hrel;clear hC hX hR;have x2:=aa hX2;by_cases hlj:j<x.recs.length
    case neg=>
     obtain rfl:j=x.recs.length:=by omega
     clear hlj;go_wp2;go_end0
     refine⟨rfl,?_,hR2⟩;refine hC2.both.both.both.iff ?_;have hb4:=HBT.out;exact⟨fun q=>⟨q.1,q.2.1,⟨by have:=hb4.1;omega,by have:=hb4.2;omega⟩,⟨hz,HFN.out⟩,fun i h=>q.2.2.1 i h h,H60.out,fun i h=>q.2.2.2 i h h⟩,fun q=>⟨q.1,q.2.1,fun i h _=>q.2.2.2.2.1 i h,fun i h _=>q.2.2.2.2.2.2 i h⟩⟩
    obtain⟨bR,oR,fa',fc',rfl,-,d0,p0⟩:=hrc j hlj;have hbel:=hC2.bel;rw[l.size] at hbel;have e0:=cell_later hbel d0;have hsj:=hsm.2.2 _ (n_l hlj);have hsf:=hsj.1;have zj:(j:Int)<(x.recs.length:Int):=by omega
    clear hbel;go_wp2_with fail
    rw[show decide ((x.recs[j].fields.length:Int)<=6)=pB (x.recs[j].fields.length<=6) by rw[Bool.eq_iff_iff];simp[pB];omega]
    refine (bc _ hC2).mono ?_;rintro e w41 ⟨rfl,hC3,hr⟩;have hX3:=ak hX2 hne hr;have R3:=hR2.trans hr;clear x2 hX2 hC2 hr e0 hR2;have HC:Hid (Chk a1 a2 oa ea nt c1 c2 oc ec fs.length K D wK _ w41):=hC3;have HXX:=hX3;have HD:Hid (∀w',Below K wK w'->w'.cell? ⟨bR,oR+j,none⟩=some (.slice fa' x.recs[j].fields.length fc')):=fun w' q=>by rw[l.size] at q;exact cell_later q d0
    have HS:Hid (∀w',Below w41.heap.size w41 w'->w'.cell? ⟨w.heap.size,6,none⟩=some (.slice (some ⟨bR,oR,none⟩) x.recs.length rc)/\w'.cell? ⟨bR,oR+j,none⟩=some (.slice fa' x.recs[j].fields.length fc')):=fun w' q=>⟨aa (ab HXX q) 6,HD.out _ (HC.out.mono q).bel⟩
    obtain⟨j0,j1⟩:=HS.out _ gM;have q:Below w41.heap.size w41 w41.drew:=gM.drew;clear hC3;go_upto_region 20 with fail
    go_region_held3 (fun w'=>w'.cell? ⟨w.heap.size,6,none⟩=some (.slice (some ⟨bR,oR,none⟩) x.recs.length rc)/\w'.cell? ⟨bR,oR+j,none⟩=some (.slice fa' x.recs[j].fields.length fc'))
     (first | exact⟨j0,j1⟩ | exact HS.out _ q | exact⟨aa (ak (ab HXX q) hne hr) 6,HD.out _ hc.bel⟩)
     (first
      | (go_at_call 140;refine (el fa' x.recs[j].fields fc' x.recs.length hsj p0 l (HC.out.mono q)).mono ?_;rintro e wy ⟨rfl,hc,hr⟩))
    have hX4:=ak (ab HXX q) hne hr;have R4:=(R3.trans (Rk.of q)).trans hr;have hC4:Chk a1 a2 oa ea nt c1 c2 oc ec fs.length K D wK ((((b || !pB (Btw x.kind 1 4)) || !pB (cj fs x)) || !pB (bJ fs D x.recs.length x.frames x.frames.length)) || !pB (dH fs.length D x.recs.length x.recs (j+1))) wy:=hc.both.both.iff (dH.more hlj)
    clear HS HC HD j0 j1 hc hr;go_wp2;go_roundw
    case rel=>exact⟨j+1,by omega,by go_num,hC4,hX4,R4⟩
    case measure=>simp[intOf];omega
end
end Go.Proofs.YtdlkbbgmjilccaaGreatDoor
