/- TV23 -/
import Derived.Test.YtdlkbbgmjilccaaGreatDoorTV22
import Derived.Test.YtdlkbbgmjilccaaGreatDoorTV11
import Derived.Test.YtdlkbbgmjilccaaGreatDoorTV19
set_option maxHeartbeats 32000000
set_option maxRecDepth 100000
namespace Go.Proofs.YtdlkbbgmjilccaaGreatDoor
open Go.RowKit
theorem good_mod{ts:List ByteArray}{fs:List Fn}(hG:Good ts fs):modB ts fs=true:=by
 obtain⟨f',a',hV⟩:=hG;rcases hV with ⟨-,h,-⟩ | ⟨hm,-⟩
 ·cases h
 ·exact hm
theorem fW{P Q:Nat->Prop}{n:Nat}(h:∀j,j<n->(P j↔Q j)):lst P n=lst Q n:=by
 unfold lst;apply List.filter_congr
 intro j hj;have hj':j<n:=by simpa using hj
 simp only[show P j=Q j from propext (h j hj')]
theorem lstI_as{P Q:Nat->Prop}{n m:Nat}(hnm:n<=m)(h:∀j,j<m->(P j↔Q j))(hq:∀j,n<=j->¬Q j):lstI P m=lstI Q n:=by
 unfold lstI;rw[fW h,fM hnm (fun j h1 _=>hq j h1)]
def EP (code:List (Int×Int))(d:List Int)(k j:Nat):Prop:=j=0\/HP code d k j
theorem lst_cons{P:Nat->Prop}{n:Nat}(hn:1<=n):lst (fun j=>j=0\/P j) n=0 :: (lst P n).filter (fun j=>decide (j≠0)):=by
 induction n with
 | zero=>omega
 | succ n ih=>
  by_cases h0:n=0
  ·subst h0;rw[dS (.inl rfl)];by_cases hp:P 0
   ·rw[dS hp];simp[lst]
   ·rw[fo hp];simp[lst]
  ·by_cases hp:P n
   ·rw[dS (.inr hp),dS hp,ih (by omega),List.filter_append];simp[h0]
   ·rw[fo (fun q=>q.elim h0 hp),fo hp,ih (by omega)]
theorem lst_head{P:Nat->Prop}{n:Nat}(hn:1<=n)(h:P 0):∃l,lst P n=0 :: l:=by
 have:=lst_cons (P:=P) hn;rw[fW (Q:=P) (fun j _=>⟨fun q=>q.elim (fun e=>by rw[e];exact h) id,.inr⟩)] at this;exact⟨_,this⟩
theorem lst_ent_yes{P:Nat->Prop}{n:Nat}(h:P 0):lst (fun j=>j=0\/P j) n=lst P n:=fW (fun j _=>⟨fun q=>q.elim (fun e=>by rw[e];exact h) id,.inr⟩)
theorem lst_ent_no{P:Nat->Prop}{n:Nat}(hn:1<=n)(h:¬P 0):lst (fun j=>j=0\/P j) n=0 :: lst P n:=by
 rw[lst_cons hn,List.filter_eq_self.2];intro j hj;have:=(fD.1 hj).2;simp only[decide_eq_true_eq]
 rintro rfl;exact h this
theorem lstI_first{P:Nat->Prop}{n:Nat}(h:¬P 0):∀(h0:0<(lstI P n).length),(lstI P n)[0]≠0:=by
 intro h0 e;have hm:(lstI P n)[0]∈lstI P n:=n_l _;rw[e] at hm;unfold lstI at hm;obtain⟨j,hj,hj0⟩:=List.mem_map.1 hm;obtain rfl:j=0:=by omega
 exact h (fD.1 hj).2
theorem app_none(W:World)(a p:Option Addr)(n cap c:Nat)(h:n<=cap)(ty:TypeId):(Builtin.append_ #[148,148] ty #[.slice a n cap,.slice p 0 c]).run Tryz.prog W=.ok (.slice a n cap) W:=by
 obtain⟨i0,hi,hz0,hz1,hz2⟩:=info_parts info3
 cases a<;>cases p<;>simp[Builtin.append_,run_underlying Tryz.underlying148,sizeOf,typeInfo,hi,Builtin.lenOf,Builtin.firstCells,loadCells,loadCellsFrom,storeCells,h]
theorem sEntries0_any(a1 a2:Option Addr)(nt c1 c2:Nat)(fs:List Fn)(f:Nat)(w:World)(hf:f<fs.length)(hn:fs.length<=1048576)(hm:FnsAt w 0 a2 fs)(F:Fine fs fs[f].code)(HG:∀d,Done fs fs[f].code d->GJ fs[f].code d) :
  Calls Tryz.prog 92 #[.agg #[.slice a1 nt c1,.slice a2 fs.length c2],.int .i64 f] w fun e w'=>∃v d,e=.returned v/\Done fs fs[f].code d/\DSl w' w.heap.size v (lstI (EP fs[f].code d fs[f].code.length) fs[f].code.length)/\Below w.heap.size w w':=by
 obtain⟨i0,hi,hz0,hz1,hz2⟩:=info_parts info3;have hbA:Below w.heap.size w (w.alloc (.cells #[.slice a1 nt c1,.slice a2 fs.length c2] 42)):=gM.alloc nL _;have hone:=F.one;have hmost:=F.most;go_enter Tryz.func92,Tryz.ntmps92
 go_wp2_with fail
 refine (sHeads_any a1 a2 _ _ _ fs f _ hf hn (hm.mono hbA) F HG).mono ?_;rintro e w1 ⟨v,d,rfl,hD,hds,hb1⟩;have hB1:=hbA.trans (hb1.mono hbA.size);have HD:Hid (Done fs fs[f].code d):=hD;have hds1:=hds.low hbA.size;have hlen:=ei (HP fs[f].code d fs[f].code.length) fs[f].code.length;clear hbA hb1 hD hds;by_cases h0:HP fs[f].code d fs[f].code.length 0
 ·have HE:Hid (lstI (EP fs[f].code d fs[f].code.length) fs[f].code.length=lstI (HP fs[f].code d fs[f].code.length) fs[f].code.length):=by
   show _=_
   unfold lstI;exact congrArg _ (lst_ent_yes h0)
  obtain⟨t,ht⟩:=lst_head hone h0;have hl:lstI (HP fs[f].code d fs[f].code.length) fs[f].code.length=0 :: t.map fun (j:Nat)=>(j:Int):=by unfold lstI;rw[ht];rfl
  have hds2:=hds1;rw[hl] at hds1;obtain⟨av,cv,rfl,hI⟩:=hds1.form;obtain⟨b,off,rfl,-,hc⟩:=hI 0 (by simp);have hc':w1.cell? ⟨b,off,none⟩=some (.int .i64 0):=by simpa using hc
  obtain⟨n1,hn1⟩:∃n1,n1=(0 :: t.map fun (j:Nat)=>(j:Int)).length:=⟨_,rfl⟩;have hpos:0<n1:=by rw[hn1];simp
  rw[hl,<-hn1] at hlen;rw[<-hn1] at hds2 ⊢;clear hn1 hl ht hds1 hI hc;go_wp2;go_ret
  exact⟨_,d,rfl,HD.out,by rw[HE.out];exact hds2,hB1⟩
 have HE:Hid (lstI (EP fs[f].code d fs[f].code.length) fs[f].code.length=0 :: lstI (HP fs[f].code d fs[f].code.length) fs[f].code.length):=by
  show _=_
  unfold lstI;rw[show lst (EP fs[f].code d fs[f].code.length) fs[f].code.length=0 :: lst (HP fs[f].code d fs[f].code.length) fs[f].code.length from lst_ent_no hone h0]
  rfl
 have hfirst:=lstI_first (n:=fs[f].code.length) h0;obtain⟨L,hL⟩:∃L,L=lstI (HP fs[f].code d fs[f].code.length) fs[f].code.length:=⟨_,rfl⟩;rw[<-hL] at hlen hds1 hfirst HE;clear hL h0;have hown0:(w1.alloc (.cells #[.int .i64 0] 3)).ownsRow w.heap.size 3 1 (.slice (some ⟨w1.heap.size,0,none⟩) 1 1) 1 [.int .i64 0]:=⟨rfl,.inr ⟨w1.heap.size,1,#[.int .i64 0],rfl,hB1.size,ah _ _ _,by omega,by unfold maxLen;omega,rfl,rfl⟩⟩;rcases hds1 with ⟨rfl,av,cv,rfl⟩ | ⟨g,cv,rfl,hg,hH⟩
 ·have ha:=fun ty=>app_none (w1.alloc (.cells #[.int .i64 0] 3)) (some ⟨w1.heap.size,0,none⟩) av 1 1 cv (by omega) ty
  have hB2:Below w.heap.size w (w1.alloc (.cells #[.int .i64 0] 3)):=hB1.alloc hB1.size _;have hds2:DSl (w1.alloc (.cells #[.int .i64 0] 3)) w.heap.size (.slice (some ⟨w1.heap.size,0,none⟩) 1 1) [0]:=eD (d:=[0]) hown0 rfl;clear hfirst
  cases av
  all_goals
   go_wp2;go_ret
   exact⟨_,d,rfl,HD.out,by rw[HE.out];exact hds2,hB2⟩
 by_cases hL0:L=[]
 ·subst hL0;have ha:=fun ty=>app_none (w1.alloc (.cells #[.int .i64 0] 3)) (some ⟨w1.heap.size,0,none⟩) (some ⟨g,0,none⟩) 1 1 cv (by omega) ty
  have hB2:Below w.heap.size w (w1.alloc (.cells #[.int .i64 0] 3)):=hB1.alloc hB1.size _;have hds2:DSl (w1.alloc (.cells #[.int .i64 0] 3)) w.heap.size (.slice (some ⟨w1.heap.size,0,none⟩) 1 1) [0]:=eD (d:=[0]) hown0 rfl;clear hfirst;simp only[List.length_nil] at hlen ⊢
  go_wp2;go_ret
  exact⟨_,d,rfl,HD.out,by rw[HE.out];exact hds2,hB2⟩
 have hpos:0<L.length:=List.length_pos_iff.2 hL0;have c0:=hH.cell hpos;have hf0:=hfirst hpos;have hf0':(L[0] == 0)=false:=by simpa using hf0
 have hH2:=hH.mono (w':=w1.alloc (.cells #[.int .i64 0] 3)) (gM.alloc nL _);have HNW:Hid (∀(j:Nat) (u:Value),(L.map (Value.int .i64))[j]?=some u->(w1.alloc (.cells #[.int .i64 0] 3)).cell? ((⟨g,0,none⟩:Addr).add j)=some u):=fun j u hu=>by
  rw[Go.WideShapes.add_plain,Nat.zero_add];simp only[List.getElem?_map,Option.map_eq_some_iff] at hu
  obtain⟨z,hz,rfl⟩:=hu;obtain⟨hj,rfl⟩:=List.getElem?_eq_some_iff.1 hz;exact hH2.cell hj
 have hB2:Below w.heap.size w (w1.alloc (.cells #[.int .i64 0] 3)):=hB1.alloc hB1.size _;have hz2':=hB2.size;clear hfirst hf0 hH;go_wp2_with (first | (at_builtin;refine wpList_append_lies _ rfl _ _ 148 rfl w.heap.size 3 i0 (.int .i64 0) 1 8 Tryz.underlying148 hi hz0 hz1 hz2 rfl (by decide) _ _ _ rfl hown0 ⟨g,0,none⟩ L.length cv (L.map (Value.int .i64)) rfl (by simp) HNW.out (by intro u hu;obtain⟨z,-,rfl⟩:=List.mem_map.1 hu;rfl) hpos (by unfold maxLen;omega) (by omega) hz2' _ rfl ?_;intro g1 cap w5 hown1 hgrow1 hat1 hlt1))
 have hk1:=dQ.grown (ts:=[3]) hown0 hgrow1 (by simp);have hB3:Below w.heap.size w w5:=hB2.trans (hk1.toBelow hz2');have hds2:DSl w5 w.heap.size (.slice (some ⟨g1,0,none⟩) (1+L.length) cap) (0 :: L):=eD (d:=0 :: L) (by simpa using hown1) (by simp;omega);go_wp2;go_ret
 exact⟨_,d,rfl,HD.out,by rw[HE.out];exact hds2,hB3⟩
def zeroV:Vl:=⟨0,0,⟨#[]⟩⟩
def zeroS:Si:=⟨0,0,0,0⟩
def Btw (n lo hi:Int):Prop:=lo<=n/\n<=hi
def Reg (n c:Int):Prop:=0<=n/\n<c
def aA (nf:Nat)(D:aH)(at':Int)(p:Nat)(n:Int):Prop:=
 match p with
 | 0=>n=0
 | 1=>Reg n D.vals
 | 2=>Reg n D.nums
 | 3=>0<=n/\n<=6
 | 4=>0<=n/\n<=5
 | 5=>Reg n nf
 | 6=>0<=n/\∃h:n.toNat<D.ops.length,at'<n\/D.ops[n.toNat].op=25
 | 7=>1<=n/\n<=3
 | 8=>Reg n D.exits.length
 | _=>False
def a6 (nf:Nat)(p:Nat)(v:Vl):Prop:=
 match p with
 | 1=>valB v.k v.n v.s nf 0=true
 | 2=>v.k=1/\valB v.k v.n v.s nf 0=true
 | _=>v=zeroV
def shp:List (List Nat):=[[0,0,0,0,0],[1,0,0,0,1],[1,1,0,0,0],[2,0,0,0,2],[2,2,0,0,0],[2,1,0,8,0],[1,2,0,0,0],[1,1,1,8,0],[1,1,1,8,0],[1,1,1,8,0],[1,1,1,8,0],[1,1,1,0,0],[1,1,0,8,0],[2,2,2,8,0],[2,2,2,8,0],[2,2,2,8,0],[1,2,2,0,0],[1,3,0,8,0],[1,1,4,8,0],[4,1,1,8,0],[0,0,0,8,0],[1,3,0,0,0],[0,1,5,8,0],[0,6,0,0,0],[0,1,6,8,0],[0,0,0,8,0],[0,0,0,8,0],[0,1,0,0,0],[0,1,0,8,0],[0,7,0,8,0]]
def sh (op j:Nat):Nat:=(shp.getD op []).getD j 0
set_option maxRecDepth 10000 in
theorem sh_le:∀op,op<30->∀j,j<5->sh op j<=8:=by decide
def ShAt (w:World):Prop:=∀op j,op<30->j<5->w.cell? ⟨0,op*5+j,none⟩=some (.int .i64 (sh op j:Nat))
theorem ShAt.mono{w w':World}(h:ShAt w)(hb:Below w.heap.size w w'):ShAt w':=fun op j h1 h2=>cell_later hb (h op j h1 h2)
def FopP (fs:List Fn)(D:aH)(at':Int)(x:Fo):Prop:=
 (1<=x.op/\x.op<=29)/\(insD fs x.f x.p).isSome=true/\aA fs.length D at' (sh x.op.toNat 0) x.d/\aA fs.length D at' (sh x.op.toNat 1) x.a/\aA fs.length D at' (sh x.op.toNat 2) x.b /\
  aA fs.length D at' (sh x.op.toNat 3) x.x/\a6 fs.length (sh x.op.toNat 4) x.v
def SrcP (nf:Nat)(D:aH)(nr:Nat)(s:Sr):Prop:=
 (s.k=1/\s.n=0/\valB s.v.k s.v.n s.v.s nf 0=true)\/(s.v=zeroV/\((s.k=2/\Reg s.n D.vals)\/(s.k=3/\Reg s.n D.nums)\/(s.k=4/\Reg s.n nr)))
def dX (nf:Nat)(D:aH)(nr:Nat)(l:List Sr):Prop:=∀i (h:i<l.length),SrcP nf D nr l[i]
def cJ (fs:List Fn)(D:aH)(nr:Nat)(x:EF)(last:Bool):Prop:=Fits fs x.fn x.pc x.locals.length x.stack.length last/\dX fs.length D nr x.locals/\dX fs.length D nr x.stack
def fw (nf:Nat)(D:aH)(nr:Nat)(x:ER):Prop:=x.fields.length<=6/\dX nf D nr x.fields
def cj (fs:List Fn)(e:Ex):Prop:=(e.kind=2/\cK fs e.spec)\/(e.kind≠2/\e.spec=zeroS)
def eR (fs:List Fn)(D:aH)(e:Ex):Prop:=
 (1<=e.kind/\e.kind<=4)/\cj fs e/\(1<=e.frames.length/\e.frames.length<=4)/\(∃h:0<e.frames.length,e.frames[0].fn=D.fn) /\
  (∀i (h:i<e.frames.length),cJ fs D e.recs.length e.frames[i] (decide ((i:Int)=(e.frames.length:Int)-1)))/\e.recs.length<=60/\∀i (h:i<e.recs.length),fw fs.length D e.recs.length e.recs[i]
def cq (fs:List Fn)(D:aH):Prop:=
 0<=D.fn/\∃h:D.fn.toNat<fs.length,D.entry∈lstI (EP fs[D.fn.toNat].code (dep fs fs[D.fn.toNat].code) fs[D.fn.toNat].code.length) fs[D.fn.toNat].code.length /\
  Btw D.vals (IntKind.i64.wrap (fs[D.fn.toNat].locals+ht fs D.fn D.entry)) 400/\Btw D.nums 0 400
def eH (op:Int):Prop:=op=23\/op=26\/op=27
def OpsP (fs:List Fn)(D:aH):Prop:=(1<=D.ops.length/\D.ops.length<=1500)/\(∃h:D.ops.length-1<D.ops.length,eH D.ops[D.ops.length-1].op)/\∀i (h:i<D.ops.length),FopP fs D i D.ops[i]
def ew (fs:List Fn)(D:aH):Prop:=D.exits.length<=1500/\∀i (h:i<D.exits.length),eR fs D D.exits[i]
def FastP (ts:List ByteArray)(fs:List Fn)(D:aH):Prop:=Good ts fs/\cq fs D/\OpsP fs D/\ew fs D
end Go.Proofs.YtdlkbbgmjilccaaGreatDoor
