/- TV25 -/
import Derived.Test.YtdlkbbgmjilccaaGreatDoorTV24
import Derived.LaidEql
import Derived.Maps.OwnSet
set_option maxHeartbeats 32000000
set_option maxRecDepth 100000
namespace Go.Proofs.YtdlkbbgmjilccaaGreatDoor
open Go.RowKit
theorem hidz{p:Prop}(h:p):Hid p:=h
structure But (g:Nat)(w w':World):Prop where
 os:w'.os=w.os
 tape:w'.tape=w.tape
 output:w'.output=w.output
 size:w.heap.size<=w'.heap.size
 block:∀k,k<w.heap.size->k≠g->w'.heap[k]?=w.heap[k]?
theorem But.trans{g:Nat}{a b c:World}(h:But g a b)(k:But g b c):But g a c:=
 ⟨k.os.trans h.os,k.tape.trans h.tape,k.output.trans h.output,Nat.le_trans h.size k.size,fun i hi hg=>(k.block i (Nat.lt_of_lt_of_le hi h.size) hg).trans (h.block i hi hg)⟩
theorem But.of_below{g:Nat}{w w':World}(h:Below w.heap.size w w'):But g w w':=⟨h.os,h.tape,h.output,h.size,fun k hk _=>h.block k hk⟩
theorem But.below{g B:Nat}{a w w':World}(hb:Below B a w)(h:But g w w')(hg:B<=g)(hB:B<=w.heap.size):Below B a w':=
 ⟨h.os.trans hb.os,h.tape.trans hb.tape,h.output.trans hb.output,Nat.le_trans hb.size h.size,fun k hk=>(h.block k (by omega) (by omega)).trans (hb.block k hk)⟩
theorem pB_andp(P Q:Prop):pB (P/\Q)=(pB P && pB Q):=by
 rw[Bool.eq_iff_iff];simp[pB]
theorem int_eqp(a b:Int):(a == b)=pB (a=b):=by
 rw[Bool.eq_iff_iff];simp[pB]
theorem eqInPl(a b c e:Int)(W:World):(Op.equalIn 10000 195 (.agg #[.int .i64 a,.int .i64 b]) (.agg #[.int .i64 c,.int .i64 e])).run Tryz.prog W=.ok (pB (a=c/\b=e)) W:=by
 have h:∀d:Nat,(Op.equalIn (d+1+1) 195 (.agg #[.int .i64 a,.int .i64 b]) (.agg #[.int .i64 c,.int .i64 e])).run Tryz.prog W=.ok (pB (a=c/\b=e)) W:=fun d=>by
  have ht:Tryz.prog.underlying 195=some (.struct (Tryz.prog.fieldsOf 195)):=by kernel_rfl
  have hp:Tryz.prog.stoodInHeld 195=false:=by kernel_rfl
  have hf : (Tryz.prog.fieldsOf 195).toList.map (fun f => (f.name, f.type, f.offset)) = [("fn", 3, 0), ("pc", 3, 1)] := by kernel_rfl
  rw[run_equalIn_struct W (d+1) 195 _ _ ht hp];have p0:∀(a b:Int) (W:World),(part 3 #[.int .i64 a,.int .i64 b] 0).run Tryz.prog W=.ok (.int .i64 a) W:=fun _ _ _=>by kernel_rfl
  have p1:∀(a b:Int) (W:World),(part 3 #[.int .i64 a,.int .i64 b] 1).run Tryz.prog W=.ok (.int .i64 b) W:=fun _ _ _=>by kernel_rfl
  rcases hL:(Tryz.prog.fieldsOf 195).toList with _ | ⟨f1,_ | ⟨f2,_ | _⟩⟩
  ·rw[hL] at hf;simp at hf
  ·rw[hL] at hf;simp at hf
  ·rw[hL] at hf;simp only[List.map_cons,List.map_nil,List.cons.injEq,Prod.mk.injEq,and_true] at hf
   obtain⟨⟨n1,t1,o1⟩,n2,t2,o2⟩:=hf;have e1:=run_equalIn_int (P:=Tryz.prog) W d 3 .i64 .i64 a c Tryz.underlying3;have e2:=run_equalIn_int (P:=Tryz.prog) W d 3 .i64 .i64 b e Tryz.underlying3;rw[int_eqp] at e1 e2;have hb:pB (a=c/\b=e)=(pB (a=c) && pB (b=e)):=pB_andp _ _;rw[hb]
   cases hk:pB (a=c)<;>cases hn:pB (b=e)<;>rw[hk] at e1<;>rw[hn] at e2 <;>
    simp[Op.eqFields,n1,t1,o1,n2,t2,o2,p0,p1,e1,e2]
  ·rw[hL] at hf;simp at hf
 exact h 9998
def keyP (q:Int×Int):Value:=.agg #[.int .i64 q.1,.int .i64 q.2]
def dK (es:List MapEntry)(ps:List (Int×Int)):Prop:=es.map (·.key)=ps.map keyP
def MapP (w:World)(b:Nat)(ps:List (Int×Int)):Prop:=∃es c,w.heap[b]?=some (.map es c)/\dK es.toList ps
theorem MapP.mono{w w':World}{b:Nat}{ps:List (Int×Int)}(h:MapP w b ps)(hb:Below w.heap.size w w'):MapP w' b ps:=by
 obtain⟨es,c,h1,h2⟩:=h;exact⟨es,c,ab h1 hb,h2⟩
theorem fC(a b c e:Int)(w:World):(Op.equal 195 (.agg #[.int .i64 a,.int .i64 b]) (.agg #[.int .i64 c,.int .i64 e])).run Tryz.prog w=.ok (decide (a=c/\b=e)) w:=by
 have h:=eqInPl a b c e w;have hd:pB (a=c/\b=e)=decide (a=c/\b=e):=by
  by_cases q:a=c/\b=e
  ·rw[ay q];simp[q]
  ·rw[aw q];simp[q]
 rw[hd] at h;exact h
theorem check_keyz(em:Bool)(a b:Int)(w:World):(Instr.checkKey em 10000 195 (.agg #[.int .i64 a,.int .i64 b])).run Tryz.prog w=.ok () w:=by
 have h:∀d:Nat,(Instr.checkKey em (d+1+1) 195 (.agg #[.int .i64 a,.int .i64 b])).run Tryz.prog w=.ok () w:=fun d=>by kernel_rfl
 exact h 9998
theorem findP_no(q:Int×Int)(w:World):∀(es:List MapEntry) (ps:List (Int×Int)) (i:Nat),dK es ps->q∉ps->(Instr.findAsking 195 (keyP q) es i).run Tryz.prog w=.ok none w
 | [],_,_,_,_=>by simp[Instr.findAsking]
 | e :: es,ps,i,h,hno=>by
  cases ps with
  | nil=>simp[dK] at h
  | cons p ps=>
   simp only[dK,List.map_cons,List.cons.injEq] at h
   obtain⟨hk,ht⟩:=h;have h1:=findP_no q w es ps (i+1) ht (fun hV=>hno (List.mem_cons_of_mem _ hV));have h4:decide (q.1=p.1/\q.2=p.2)=false:=decide_eq_false (fun e=>hno (by rw[show q=p from Prod.ext e.1 e.2];exact List.mem_cons_self))
   unfold keyP at h1 hk ⊢;simp only[Instr.findAsking,Sem.run_bind,hk,fC,h4]
   simpa using h1
theorem findP_yes(q:Int×Int)(w:World)(l2:List (Int×Int)):∀(l1:List (Int×Int)) (es:List MapEntry) (i:Nat),dK es (l1++q :: l2)->q∉l1->∃v,(Instr.findAsking 195 (keyP q) es i).run Tryz.prog w=.ok (some (i+l1.length,v)) w
 | [],es,i,h,_=>by
  cases es with
  | nil=>simp[dK] at h
  | cons e es=>
   simp only[dK,List.nil_append,List.map_cons,List.cons.injEq] at h
   obtain⟨hk,ht⟩:=h;refine⟨e.val,?_⟩;unfold keyP at hk ⊢;simp only[Instr.findAsking,Sem.run_bind,hk,fC]
   simp
 | p :: l1,es,i,h,hno=>by
  cases es with
  | nil=>simp[dK] at h
  | cons e es=>
   simp only[dK,List.cons_append,List.map_cons,List.cons.injEq] at h
   obtain⟨hk,ht⟩:=h;obtain⟨v,h5⟩:=findP_yes q w l2 l1 es (i+1) ht (fun hU=>hno (List.mem_cons_of_mem _ hU));refine⟨v,?_⟩;have h4:decide (q.1=p.1/\q.2=p.2)=false:=decide_eq_false (fun e=>hno (by rw[show q=p from Prod.ext e.1 e.2];exact List.mem_cons_self))
   unfold keyP at h5 hk ⊢;simp only[Instr.findAsking,Sem.run_bind,hk,fC,h4]
   rw[show i+(p :: l1).length=i+1+l1.length by simp;omega]
   simpa using h5
theorem findK_no(q:Int×Int)(w:World)(es:List MapEntry)(ps:List (Int×Int))(h:dK es ps)(hno:q∉ps):(Instr.findKey 195 (keyP q) es).run Tryz.prog w=.ok none w:=by
 have ht:Tryz.prog.underlying 195=some (.struct (Tryz.prog.fieldsOf 195)):=by kernel_rfl
 have h1:=findP_no q w es ps 0 h hno
 cases es with
 | nil=>simp[Instr.findKey,run_underlying ht,Instr.findNow]
 | cons e es=>
  have hn:Instr.findNow (.struct (Tryz.prog.fieldsOf 195)) (keyP q) (e :: es) 0=none:=rfl;simp only[Instr.findKey,Sem.run_bind,run_underlying ht]
  simpa[hn] using h1
theorem findK_yes(q:Int×Int)(w:World)(es:List MapEntry)(l1 l2:List (Int×Int))(h:dK es (l1++q :: l2))(hno:q∉l1):∃v,(Instr.findKey 195 (keyP q) es).run Tryz.prog w=.ok (some (l1.length,v)) w:=by
 have ht:Tryz.prog.underlying 195=some (.struct (Tryz.prog.fieldsOf 195)):=by kernel_rfl
 obtain⟨v,h3⟩:=findP_yes q w l2 l1 es 0 h hno;rw[Nat.zero_add] at h3;refine⟨v,?_⟩
 cases es with
 | nil=>
  have:=congrArg List.length h;simp at this
 | cons e es=>
  have hn:Instr.findNow (.struct (Tryz.prog.fieldsOf 195)) (keyP q) (e :: es) 0=none:=rfl;simp only[Instr.findKey,Sem.run_bind,run_underlying ht]
  simpa[hn] using h3
noncomputable def addP (ps:List (Int×Int)) (q:Int×Int):List (Int×Int):=if q∈ps then ps else ps++[q]
theorem same_key(q:Int×Int):Instr.sameBits 10000 (keyP q) (keyP q)=true:=by
 have h:∀d,Instr.sameBits (d+1+1) (keyP q) (keyP q)=true:=fun d=>by simp[Instr.sameBits,keyP]
 exact h 9998
theorem split_in{q:Int×Int}:∀{ps:List (Int×Int)},q∈ps->∃l1 l2,ps=l1++q :: l2/\q∉l1
 | [],h=>by cases h
 | p :: ps,h=>by
  by_cases e:q=p
  ·exact⟨[],ps,by rw[e];rfl,by simp⟩
  ·obtain⟨l1,l2,h1,h2⟩:=split_in (List.mem_of_ne_of_mem e h);exact⟨p :: l1,l2,by rw[h1];rfl,by simp[e,h2]⟩
theorem put_any(q:Int×Int)(b:Nat)(ps:List (Int×Int))(w:World)(hm:MapP w b ps) :
  ∃es c,(Instr.mapUpdate 192 (.map (some b)) (keyP q) (.agg #[])).run Tryz.prog w=.ok () (ChangeMaps.setBlock w b (.map es c))/\dK es.toList (addP ps q):=by
 obtain⟨es,c,hb,he⟩:=hm;have hck:∀em,(Instr.checkKey em 10000 195 (keyP q)).run Tryz.prog w=.ok () w:=fun em=>check_keyz em q.1 q.2 w
 by_cases hq:q∈ps
 ·obtain⟨l1,l2,hl,hno⟩:=split_in hq;have he':=he;rw[hl] at he';obtain⟨v,hf⟩:=findK_yes q w es.toList l1 l2 he' hno;have hi:l1.length<es.size:=by
   have:=congrArg List.length he';simp at this
   omega
  have hkey:es[l1.length].key=keyP q:=by
   have h1:(es.toList.map (·.key))[l1.length]?=some (keyP q):=by rw[he'];simp
   simpa[hi] using h1
  refine⟨es.modify l1.length (fun e=>{ e with key:=keyP q,val:=.agg #[] }),c,?_,?_⟩
  ·simp[Instr.mapUpdate,run_underlying Tryz.underlying192,MapKept.run_getObj_map hb,hck,hf,hi,hkey,Instr.keyThatStays,same_key,MapKept.run_setObj_map _ hb,ChangeMaps.setBlock]
  ·unfold addP dK at *;rw[if_pos hq,<-he];apply List.ext_getElem?
   intro j;rw[Array.toList_modify,List.getElem?_map,List.getElem?_map,List.getElem?_modify];by_cases hj:l1.length=j
   ·subst hj;simp[hi,hkey]
   ·simp[hj]
 ·have hf:=findK_no q w es.toList ps he hq;refine⟨es.push ⟨keyP q,.agg #[],c⟩,c+1,?_,?_⟩
  ·simp[Instr.mapUpdate,run_underlying Tryz.underlying192,MapKept.run_getObj_map hb,hck,hf,MapKept.run_setObj_map _ hb,ChangeMaps.setBlock]
  ·unfold addP dK at *;rw[if_neg hq];simp[he]
theorem But.setB(g:Nat)(w:World)(o:Obj):But g w (ChangeMaps.setBlock w g o):=
 ⟨rfl,rfl,rfl,by simp[ChangeMaps.setBlock],fun k _ hg=>by simp[ChangeMaps.setBlock,Ne.symm hg]⟩
theorem setB_at(g:Nat)(w:World)(o:Obj)(h:g<w.heap.size):(ChangeMaps.setBlock w g o).heap[g]?=some o:=by
 simp[ChangeMaps.setBlock,h]
theorem len_map(b:Nat)(ps:List (Int×Int))(w:World)(hm:MapP w b ps):(Builtin.len_ #[192] 3 #[.map (some b)]).run Tryz.prog w=.ok (.int .i64 ps.length) w:=by
 obtain⟨es,c,hb,he⟩:=hm;have hl:es.size=ps.length:=by
  have:=congrArg List.length he;simpa using this
 simp[Builtin.len_,run_underlying Tryz.underlying192,MapKept.run_getObj_map hb,hl,goInt]
/-! Each once. -/
noncomputable def metP (qs:List (Int×Int)):List (Int×Int):=qs.foldl addP []
theorem eC(qs:List (Int×Int))(k:Nat)(h:k<qs.length):metP (qs.take (k+1))=addP (metP (qs.take k)) qs[k]:=by
 unfold metP;rw[List.take_succ_eq_append_getElem h,List.foldl_append];rfl
theorem dZ(qs:List (Int×Int)):∀k≤qs.length,(∀x,x∈metP (qs.take k)↔x∈qs.take k)/\(metP (qs.take k)).length<=k/\((metP (qs.take k)).length=k↔(qs.take k).Nodup)
 | 0,_=>by simp[metP]
 | k+1,h=>by
  obtain⟨h1,h2,h3⟩:=dZ qs k (by omega);have hlt:k<qs.length:=by omega
  rw[eC _ _ hlt];have ht:qs.take (k+1)=qs.take k++[qs[k]]:=List.take_succ_eq_append_getElem hlt;rw[ht];unfold addP;split
  ·rename_i hq
   have hq':=(h1 _).1 hq;refine⟨fun x=>?_,by omega,⟨fun e=>by omega,fun e=>?_⟩⟩
   ·rw[h1,List.mem_append,List.mem_singleton];exact⟨.inl,fun o=>o.elim id (fun e=>by rw[e];exact hq')⟩
   ·rw[List.nodup_append] at e;exact absurd rfl (e.2.2 _ hq' _ (List.mem_singleton.2 rfl))
  ·rename_i hq
   have hq':qs[k]∉qs.take k:=fun e=>hq ((h1 _).2 e)
   refine⟨fun x=>by rw[List.mem_append,List.mem_append,h1],by simp;omega,?_⟩;rw[List.length_append,List.length_singleton,List.nodup_append];constructor
   ·intro e;refine⟨h3.1 (by omega),by simp,fun x hx y hy=>?_⟩;rw[List.mem_singleton.1 hy];exact fun e2=>hq' (by rw[<-e2];exact hx)
   ·intro e;have:=h3.2 e.1;omega
theorem metP_once(qs:List (Int×Int)):((metP qs).length=qs.length↔qs.Nodup)/\(metP qs).length<=qs.length:=by
 have:=dZ qs qs.length nL;rw[List.take_length] at this;exact⟨this.2.2,this.2.1⟩
abbrev dJ (x:aH):Prop:=FastMax x
abbrev bK (x:aH):Prop:=bI x
def cH (w:World)(lo:Nat)(a:Option Addr)(xs:List aH):Prop:=
 ∀i (h:i<xs.length),∃b off a0 c0 a1 c1,a=some ⟨b,off,none⟩/\lo<=b/\w.cell? ⟨b,off+i*6,none⟩=some (.int .i64 xs[i].fn)/\w.cell? ⟨b,off+i*6+1,none⟩=some (.int .i64 xs[i].entry)/\w.cell? ⟨b,off+i*6+2,none⟩=some (.int .i64 xs[i].vals)/\w.cell? ⟨b,off+i*6+3,none⟩=some (.int .i64 xs[i].nums)/\w.cell? ⟨b,off+i*6+4,none⟩=some (.slice a0 xs[i].ops.length c0)/\w.cell? ⟨b,off+i*6+5,none⟩=some (.slice a1 xs[i].exits.length c1)/\bS w lo a0 xs[i].ops/\bV w lo a1 xs[i].exits
theorem cH.mono{w w':World}{lo:Nat}{a:Option Addr}{xs:List aH}(h:cH w lo a xs)(hb:Below w.heap.size w w'):cH w' lo a xs:=by
 intro i hi;obtain⟨b,off,a0,c0,a1,c1,e1,e2,h0,h1,h2,h3,h4,h5,p0,p1⟩:=h i hi;exact⟨b,off,a0,c0,a1,c1,e1,e2,cell_later hb h0,cell_later hb h1,cell_later hb h2,cell_later hb h3,cell_later hb h4,cell_later hb h5,p0.mono hb,p1.mono hb⟩
theorem cH.above{w w':World}{lo:Nat}{a:Option Addr}{xs:List aH}(h:cH w lo a xs)(hb:aL lo w w'):cH w' lo a xs:=by
 intro i hi;obtain⟨b,off,a0,c0,a1,c1,e1,e2,h0,h1,h2,h3,h4,h5,p0,p1⟩:=h i hi;exact⟨b,off,a0,c0,a1,c1,e1,e2,hb.cell e2 h0,hb.cell e2 h1,hb.cell e2 h2,hb.cell e2 h3,hb.cell e2 h4,hb.cell e2 h5,p0.above hb,p1.above hb⟩
theorem cH.low{w:World}{lo lo':Nat}{a:Option Addr}{xs:List aH}(h:cH w lo a xs)(hl:lo'<=lo):cH w lo' a xs:=by
 intro i hi;obtain⟨b,off,a0,c0,a1,c1,e1,e2,h0,h1,h2,h3,h4,h5,p0,p1⟩:=h i hi;exact⟨b,off,a0,c0,a1,c1,e1,by omega,h0,h1,h2,h3,h4,h5,p0.low hl,p1.low hl⟩
def FaB (w:World)(lo g:Nat)(xs:List aH):Prop:=lo<=g/\∃cur:Array Value,w.heap[g]?=some (.cells cur 101 (0,0))/\cur.size=xs.length*6/\∀j (_:j<xs.length),noSl cur[j*6]?/\noSl cur[j*6+1]?/\noSl cur[j*6+2]?/\noSl cur[j*6+3]?/\∃g0 g1,cur[j*6+4]?=some (.slice (some ⟨g0,0,none⟩) xs[j].ops.length xs[j].ops.length)/\cur[j*6+5]?=some (.slice (some ⟨g1,0,none⟩) xs[j].exits.length xs[j].exits.length)/\FoB w lo g0 xs[j].ops/\ExB w lo g1 xs[j].exits
theorem FaB.keep{w w':World}{lo g:Nat}{xs:List aH}(h:FaB w lo g xs)(hk:bH lo w w'):FaB w' lo g xs:=by
 obtain⟨hl,cur,h1,h2,h3⟩:=h;refine⟨hl,cur,hk _ _ hl h1,h2,fun j hj=>?_⟩;obtain⟨n0,n1,n2,n3,g0,g1,d0,d1,s0,s1⟩:=h3 j hj;exact⟨n0,n1,n2,n3,g0,g1,d0,d1,s0.keep hk,s1.keep hk⟩
theorem FaB.low{w:World}{lo lo' g:Nat}{xs:List aH}(h:FaB w lo g xs)(hl:lo'<=lo):FaB w lo' g xs:=by
 obtain⟨hl1,cur,h1,h2,h3⟩:=h;refine⟨by omega,cur,h1,h2,fun j hj=>?_⟩;obtain⟨n0,n1,n2,n3,g0,g1,d0,d1,s0,s1⟩:=h3 j hj;exact⟨n0,n1,n2,n3,g0,g1,d0,d1,s0.low hl,s1.low hl⟩
structure FaY (w:World)(lo:Nat)(a:Option Addr)(xs:List aH):Prop where
 at_:cH w lo a xs
 sh:∃g,a=some ⟨g,0,none⟩/\FaB w lo g xs
theorem FaY.mono{w w':World}{lo:Nat}{a:Option Addr}{xs:List aH}(h:FaY w lo a xs)(hb:Below w.heap.size w w'):FaY w' lo a xs:=⟨h.at_.mono hb,by obtain⟨g,h1,h2⟩:=h.sh;exact⟨g,h1,h2.keep (bH.below hb)⟩⟩
theorem FaY.above{w w':World}{lo:Nat}{a:Option Addr}{xs:List aH}(h:FaY w lo a xs)(hb:aL lo w w'):FaY w' lo a xs:=⟨h.at_.above hb,by obtain⟨g,h1,h2⟩:=h.sh;exact⟨g,h1,h2.keep (bH.above hb)⟩⟩
theorem FaY.low{w:World}{lo lo':Nat}{a:Option Addr}{xs:List aH}(h:FaY w lo a xs)(hl:lo'<=lo):FaY w lo' a xs:=⟨h.at_.low hl,by obtain⟨g,h1,h2⟩:=h.sh;exact⟨g,h1,h2.low hl⟩⟩
theorem szFastE_m(x:aH)(a0:Option Addr)(c0:Nat)(a1:Option Addr)(c1:Nat)(left:Int)(w:World)(h0:0<=left)(h1:left<=1048576)(hx:dJ x)(p0:bS w 0 a0 x.ops)(p1:bV w 0 a1 x.exits) :
  Calls Tryz.prog 41 #[.agg #[.int .i64 x.fn,.int .i64 x.entry,.int .i64 x.vals,.int .i64 x.nums,.slice a0 x.ops.length c0,.slice a1 x.exits.length c1],.int .i64 left] w fun e w'=>∃r:Int,e=.returned (.int .i64 r)/\r<=left/\(0<=r->bK x/\(ft x:Int)+r<=left)/\Below w.heap.size w w':=by
 have hbA:Below w.heap.size w (w.alloc (.cells #[.int .i64 x.fn,.int .i64 x.entry,.int .i64 x.vals,.int .i64 x.nums,.slice a0 x.ops.length c0,.slice a1 x.exits.length c1] 93)):=gM.alloc nL _;have hM0:=ah w #[.int .i64 x.fn,.int .i64 x.entry,.int .i64 x.vals,.int .i64 x.nums,.slice a0 x.ops.length c0,.slice a1 x.exits.length c1] 93;go_enter Tryz.func41,Tryz.ntmps41
 go_wp2_with fail
 refine (szFOpS_m a0 x.ops c0 left _ h0 h1 hx.1 (p0.mono hbA)).mono ?_;rintro e w1 ⟨r0,rfl,hr0,hs0,hb0⟩;have hB0:=hbA.trans (hb0.mono hbA.size);have hM1:=ab hM0 hb0;by_cases hn0:r0<0
 ·clear hs0;go_wp2;go_ret
  exact⟨-1,rfl,by omega,by omega,hB0⟩
 obtain⟨hz0,ha0⟩:=hs0 (by omega);have HA0:Hid ((LM mFo x.ops:Int)+r0<=left):=ha0;clear hs0 ha0;have y1:=aa hM1;go_wp2_with fail
 refine (szExitS_m a1 x.exits c1 r0 _ (by omega) (by omega) hx.2 (p1.mono hB0)).mono ?_;rintro e w2 ⟨r1,rfl,hr1,hs1,hb1⟩;have hB1:=hB0.trans (hb1.mono hB0.size);have hM2:=ab hM1 hb1;clear y1;by_cases hn1:r1<0
 ·clear hs1 HA0;go_wp2;go_ret
  exact⟨-1,rfl,by omega,by omega,hB1⟩
 obtain⟨hz1,ha1⟩:=hs1 (by omega);have HA1:Hid ((LM mEx x.exits:Int)+r1<=r0):=ha1;clear hs1 ha1;go_wp2;go_ret
 exact⟨_,rfl,by omega,fun _=>⟨⟨hz0,hz1⟩,by show ((LM mFo x.ops+LM mEx x.exits:Nat):Int)+_<=_;have a0_:=HA0.out;have a1_:=HA1.out;omega⟩,hB1⟩
theorem szFastS_m(a:Option Addr)(xs:List aH)(cap:Nat)(left:Int)(w:World)(h0:0<=left)(h1:left<=1048576)(hx:LMax dJ xs)(hm:cH w 0 a xs) :
  Calls Tryz.prog 16 #[.slice a xs.length cap,.int .i64 left] w fun e w'=>∃r:Int,e=.returned (.int .i64 r)/\r<=left/\(0<=r->aU bK xs/\(LM ft xs:Int)+r<=left)/\Below w.heap.size w w':=by
 obtain⟨hn,hc⟩:=hx;unfold maxLen at hn;by_cases h:left<xs.length
 ·go_enter Tryz.func16,Tryz.ntmps16
  go_wp2;go_ret
  exact⟨-1,rfl,by omega,by omega,Below.refl _ _⟩
 ·go_enter Tryz.func16,Tryz.ntmps16
  go_wp2;go_loopw [1,5] (fun l i wr=>∃(k:Nat) (q:Int),k<=xs.length/\i=.int .i64 k/\l=.int .i64 q/\0<=q/\q<=left-xs.length/\Hid ((cf ft (xs.take k):Int)+q<=left-xs.length)/\Hid (∀f∈xs.take k,bK f)/\Below w.heap.size w wr) (fun _ i _=>xs.length-(intOf i).toNat)
  case atStart=>exact⟨0,_,by omega,rfl,rfl,by omega,by omega,by show ((0:Nat):Int)+_<=_;omega,by intro f hf;simp at hf,Below.refl _ _⟩
  case round=>
   obtain⟨k,q,hk,rfl,rfl,hq0,hq1,HQ,hall,hb⟩:=hrel;by_cases hlt:k<xs.length
   ·obtain⟨b,off,a0,c0,a1,c1,rfl,-,d0,d1,d2,d3,d4,d5,p0,p1⟩:=hm k hlt;have e0:=cell_later hb d0;have e1:=cell_later hb d1;have e2:=cell_later hb d2;have e3:=cell_later hb d3;have e4:=cell_later hb d4;have e5:=cell_later hb d5;clear d0 d1 d2 d3 d4 d5;have hck:=hc xs[k] (n_l hlt);go_wp2_with fail
    refine (szFastE_m xs[k] _ _ _ _ _ _ hq0 (by omega) hck (p0.mono hb) (p1.mono hb)).mono ?_;rintro e w2 ⟨r,rfl,hr,hs,hb'⟩;have hB:=hb.trans (hb'.mono hb.size);clear hb' e0 e1 e2 e3 e4 e5;by_cases hr0:r<0
    ·clear hs;go_wp2;go_ret
     exact⟨-1,rfl,by omega,by omega,hB⟩
    ·have HS:=hs (by omega);have HS2:Hid (bK xs[k]/\(ft xs[k]:Int)+r<=q):=HS;clear hs HS;go_wp2;go_roundw
     case rel=>exact⟨k+1,r,by omega,by go_num,rfl,by omega,by omega,by show _<=_;rw[cg _ _ _ hlt];have a1:=HQ.out;have a2:=HS2.out.2;push_cast;omega,aP hlt hall.out HS2.out.1,hB⟩
     case measure=>simp[intOf];omega
   ·have hkn:k=xs.length:=by omega
    have HQ2:Hid ((cf ft xs:Int)+q<=left-xs.length):=by have:=HQ.out;rwa [hkn,cF] at this
    clear HQ;go_wp2;go_ret
    exact⟨q,rfl,by omega,fun _=>⟨⟨by omega,by have:=hall.out;rwa [List.take_of_length_le (by omega)] at this⟩,by have:=HQ2.out;show ((xs.length+cf ft xs:Nat):Int)+_<=_;push_cast;omega⟩,hb⟩
theorem szSiteS_any(a:Option Addr)(n cap:Nat)(left:Int)(w:World)(h0:0<=left)(h1:left<=1048576)(hn:n<=maxLen) :
  Calls Tryz.prog 15 #[.slice a n cap,.int .i64 left] w fun e w'=>e=.returned (.int .i64 (if left<n then -1 else left-n))/\w'=w:=by
 unfold maxLen at hn;by_cases h:left<n
 all_goals
  go_enter Tryz.func15,Tryz.ntmps15
  go_wp2;go_ret
  exact⟨cP (by omega),rfl⟩
theorem toSite_any(f p s t:Int)(w:World) :
  Calls Tryz.prog 52 #[.agg #[.int .i64 f,.int .i64 p,.int .i64 s,.int .i64 t]] w fun e w'=>e=.returned (.agg #[.int .i64 f,.int .i64 p,.int .i64 s,.int .i64 t])/\Below w.heap.size w w':=by
 go_enter Tryz.func52,Tryz.ntmps52
 go_wp2;refine bodyPost_ret (v:=.agg #[.int .i64 f,.int .i64 p,.int .i64 s,.int .i64 t]) (by simp[results,Tryz.results52,go_sem]) rfl ⟨rfl,?_⟩;exact ((gM.alloc nL _).alloc (by simp) _).alloc (by simp;omega) _
theorem info113:(Tryz.prog.info? 113).map (fun i=>(i.zero,i.size,i.bytes))=some (some (.agg #[.int .i64 0,.int .i64 0,.int .i64 0,.int .i64 0]),4,32):=by kernel_rfl
theorem toSiteS_any(a:Option Addr)(ss:List Si)(cap:Nat)(w:World)(hn:ss.length<=1048576)(hm:aS w 0 a ss) :
  Calls Tryz.prog 23 #[.slice a ss.length cap] w fun e w'=>e=.returned (.slice (some ⟨w.heap.size,0,none⟩) ss.length ss.length)/\aS w' w.heap.size (some ⟨w.heap.size,0,none⟩) ss/\Below w.heap.size w w':=by
 obtain⟨i0,hi,hz0,hz1,hz2⟩:=info_parts info113;go_enter Tryz.func23,Tryz.ntmps23
 go_wp2_with (first | (at_make;refine wpList_make_full _ rfl _ _ 49 rfl w.heap.size 113 i0 (.agg #[.int .i64 0,.int .i64 0,.int .i64 0,.int .i64 0]) 4 Tryz.underlying49 hi hz0 hz1 _ _ _ _ ss.length rfl rfl rfl rfl (by rw[hz2];omega) (by unfold maxLen;omega) nL ?_;intro w1 hown hgrow))
 obtain⟨cur0,hblk,hsz⟩:=aR hown;have hb0:Below w.heap.size w w1:=gM.grown hgrow nL (by intro k hk;cases hk);clear hown hgrow hi hz0 hz1 hz2;go_loopw [4] (fun i wr=>∃(k:Nat) (cur:Array Value),k<=ss.length/\i=.int .i64 k/\wr.heap[w.heap.size]?=some (.cells cur 113 (0,0))/\cur.size=ss.length*4/\(∀j (hj:j<ss.length),j<k->cur[j*4]?=some (.int .i64 ss[j].f)/\cur[j*4+1]?=some (.int .i64 ss[j].pc)/\cur[j*4+2]?=some (.int .i64 ss[j].seen)/\cur[j*4+3]?=some (.int .i64 ss[j].target))/\Below w.heap.size w wr) (fun i _=>ss.length-(intOf i).toNat)
 case atStart=>exact⟨0,cur0,by omega,rfl,hblk,hsz,fun j _ h=>by omega,hb0⟩
 case round=>
  obtain⟨k,cur,hk,rfl,hblk,hsz,hdone,hb⟩:=hrel;by_cases hlt:k<ss.length
  ·obtain⟨b,off,rfl,-,c1,c2,c3,c4⟩:=hm k hlt;have c1':=cell_later hb c1;have c2':=cell_later hb c2;have c3':=cell_later hb c3;have c4':=cell_later hb c4;clear c1 c2 c3 c4;go_wp2_with fail
   refine (toSite_any _ _ _ _ _).mono ?_;rintro e w2 ⟨rfl,hb2⟩;have hblk2:=ab hblk hb2;have hfz:=am hblk2;have hcl:w2.cell? ⟨w.heap.size,k*4,none⟩=some cur[k*4]:=by rw[aa hblk2];simp
   have hcl2:w2.cell? ⟨w.heap.size,k*4+1,none⟩=some cur[k*4+1]:=by rw[aa hblk2];simp
   have hcl3:w2.cell? ⟨w.heap.size,k*4+2,none⟩=some cur[k*4+2]:=by rw[aa hblk2];simp
   have hcl4:w2.cell? ⟨w.heap.size,k*4+3,none⟩=some cur[k*4+3]:=by rw[aa hblk2];simp
   have hb3:Below w.heap.size w w2:=hb.trans (hb2.mono hb.size);go_wp2;go_roundw
   case rel=>
    refine⟨k+1,(((cur.setIfInBounds (k*4) (.int .i64 ss[k].f)).setIfInBounds (k*4+1) (.int .i64 ss[k].pc)).setIfInBounds (k*4+2) (.int .i64 ss[k].seen)).setIfInBounds (k*4+3) (.int .i64 ss[k].target),by omega,by go_num,ao (ao (ao (ao hblk2 _) _) _) _,by simpa using hsz,?_,(((hb3.setCell nL _).setCell nL _).setCell nL _).setCell nL _⟩;intro j hj hjk;by_cases e:j=k
    ·subst e;refine⟨?_,?_,?_,?_⟩
     ·rw[ac _ (by omega),ac _ (by omega),ac _ (by omega)];exact az _ (by omega)
     ·rw[ac _ (by omega),ac _ (by omega)];exact az _ (by simp;omega)
     ·rw[ac _ (by omega)];exact az _ (by simp;omega)
     ·exact az _ (by simp;omega)
    ·obtain⟨d1,d2,d3,d4⟩:=hdone j hj (by omega);refine⟨?_,?_,?_,?_⟩
     ·rw[ac _ (by omega),ac _ (by omega),ac _ (by omega),ac _ (by omega)];exact d1
     ·rw[ac _ (by omega),ac _ (by omega),ac _ (by omega),ac _ (by omega)];exact d2
     ·rw[ac _ (by omega),ac _ (by omega),ac _ (by omega),ac _ (by omega)];exact d3
     ·rw[ac _ (by omega),ac _ (by omega),ac _ (by omega),ac _ (by omega)];exact d4
   case measure=>simp[intOf];omega
  ·go_wp2;go_ret
   refine⟨rfl,fun j hj=>?_,hb⟩;obtain⟨d1,d2,d3,d4⟩:=hdone j hj (by omega);exact⟨w.heap.size,0,rfl,Nat.le_refl _,by rw[aa hblk,Nat.zero_add];exact d1,by rw[aa hblk,Nat.zero_add];exact d2,by rw[aa hblk,Nat.zero_add];exact d3,by rw[aa hblk,Nat.zero_add];exact d4⟩
theorem eqSite_same(f p s t:Int)(w:World) :
  Calls Tryz.prog 74 #[.agg #[.int .i64 f,.int .i64 p,.int .i64 s,.int .i64 t],.agg #[.int .i64 f,.int .i64 p,.int .i64 s,.int .i64 t]] w fun e w'=>e=.returned (.bool true)/\Below w.heap.size w w':=by
 go_enter Tryz.func74,Tryz.ntmps74
 go_wp2;go_ret
 exact⟨rfl,(gM.alloc nL _).alloc (by simp) _⟩
theorem eqSiteS_any(a a2:Option Addr)(ss:List Si)(cap cap2:Nat)(w:World)(hn:ss.length<=1048576)(hm:aS w 0 a ss)(hm2:aS w 0 a2 ss) :
  Calls Tryz.prog 34 #[.slice a ss.length cap,.slice a2 ss.length cap2] w fun e w'=>e=.returned (.bool true)/\Below w.heap.size w w':=by
 go_enter Tryz.func34,Tryz.ntmps34
 go_wp2;go_loopw [5] (fun i wr=>∃(k:Nat),k<=ss.length/\i=.int .i64 k/\Below w.heap.size w wr) (fun i _=>ss.length-(intOf i).toNat)
 case atStart=>exact⟨0,by omega,rfl,Below.refl _ _⟩
 case round=>
  obtain⟨k,hk,rfl,hb⟩:=hrel;by_cases hlt:k<ss.length
  ·obtain⟨b,off,rfl,-,c1,d1,e1,f1⟩:=hm k hlt;obtain⟨b2,off2,rfl,-,c2,d2,e2,f2⟩:=hm2 k hlt;have c1':=cell_later hb c1;have c2':=cell_later hb c2;have d1':=cell_later hb d1;have d2':=cell_later hb d2;have e1':=cell_later hb e1;have e2':=cell_later hb e2;have f1':=cell_later hb f1;have f2':=cell_later hb f2;clear c1 c2 d1 d2 e1 e2 f1 f2;go_wp2;go_region_with (go_at_call 74;refine (eqSite_same _ _ _ _ _).mono ?_;rintro e w1 ⟨rfl,hb1⟩)
   all_goals
    go_wp2;go_roundw
    case rel=>
     refine⟨k+1,by omega,by go_num,Below.trans ?_ (hb1.mono ?_)⟩
     ·repeat (first | exact hb | apply Below.drew)
     ·exact hb.size
    case measure=>simp[intOf];omega
  ·go_wp2;go_ret
   exact⟨rfl,hb⟩
open Go.Deep Go.ChangeShapes Go.WideShapes Go.Joins
theorem toSiteS_made(a:Option Addr)(ss:List Si)(cap:Nat)(w:World)(hn:ss.length<=1048576)(hm:aS w 0 a ss) :
  Calls Tryz.prog 23 #[.slice a ss.length cap] w fun e w'=>e=.returned (.slice (some ⟨w.heap.size,0,none⟩) ss.length ss.length)/\aS w' w.heap.size (some ⟨w.heap.size,0,none⟩) ss/\Below w.heap.size w w'/\(∃cur,w'.heap[w.heap.size]?=some (.cells cur 113 (0,0))/\cur.size=ss.length*4):=by
 obtain⟨i0,hi,hz0,hz1,hz2⟩:=info_parts info113;go_enter Tryz.func23,Tryz.ntmps23
 go_wp2_with (first | (at_make;refine wpList_make_full _ rfl _ _ 49 rfl w.heap.size 113 i0 (.agg #[.int .i64 0,.int .i64 0,.int .i64 0,.int .i64 0]) 4 Tryz.underlying49 hi hz0 hz1 _ _ _ _ ss.length rfl rfl rfl rfl (by rw[hz2];omega) (by unfold maxLen;omega) nL ?_;intro w1 hown hgrow))
 obtain⟨cur0,hblk,hsz⟩:=aR hown;have hb0:Below w.heap.size w w1:=gM.grown hgrow nL (by intro k hk;cases hk);clear hown hgrow hi hz0 hz1 hz2;go_loopw [4] (fun i wr=>∃(k:Nat) (cur:Array Value),k<=ss.length/\i=.int .i64 k/\wr.heap[w.heap.size]?=some (.cells cur 113 (0,0))/\cur.size=ss.length*4/\(∀j (hj:j<ss.length),j<k->cur[j*4]?=some (.int .i64 ss[j].f)/\cur[j*4+1]?=some (.int .i64 ss[j].pc)/\cur[j*4+2]?=some (.int .i64 ss[j].seen)/\cur[j*4+3]?=some (.int .i64 ss[j].target))/\Below w.heap.size w wr) (fun i _=>ss.length-(intOf i).toNat)
 case atStart=>exact⟨0,cur0,by omega,rfl,hblk,hsz,fun j _ h=>by omega,hb0⟩
 case round=>
  obtain⟨k,cur,hk,rfl,hblk,hsz,hdone,hb⟩:=hrel;by_cases hlt:k<ss.length
  ·obtain⟨b,off,rfl,-,c1,c2,c3,c4⟩:=hm k hlt;have c1':=cell_later hb c1;have c2':=cell_later hb c2;have c3':=cell_later hb c3;have c4':=cell_later hb c4;clear c1 c2 c3 c4;go_wp2_with fail
   refine (toSite_any _ _ _ _ _).mono ?_;rintro e w2 ⟨rfl,hb2⟩;have hblk2:=ab hblk hb2;have hfz:=am hblk2;have hcl:w2.cell? ⟨w.heap.size,k*4,none⟩=some cur[k*4]:=by rw[aa hblk2];simp
   have hcl2:w2.cell? ⟨w.heap.size,k*4+1,none⟩=some cur[k*4+1]:=by rw[aa hblk2];simp
   have hcl3:w2.cell? ⟨w.heap.size,k*4+2,none⟩=some cur[k*4+2]:=by rw[aa hblk2];simp
   have hcl4:w2.cell? ⟨w.heap.size,k*4+3,none⟩=some cur[k*4+3]:=by rw[aa hblk2];simp
   have hb3:Below w.heap.size w w2:=hb.trans (hb2.mono hb.size);go_wp2;go_roundw
   case rel=>
    refine⟨k+1,(((cur.setIfInBounds (k*4) (.int .i64 ss[k].f)).setIfInBounds (k*4+1) (.int .i64 ss[k].pc)).setIfInBounds (k*4+2) (.int .i64 ss[k].seen)).setIfInBounds (k*4+3) (.int .i64 ss[k].target),by omega,by go_num,ao (ao (ao (ao hblk2 _) _) _) _,by simpa using hsz,?_,(((hb3.setCell nL _).setCell nL _).setCell nL _).setCell nL _⟩;intro j hj hjk;by_cases e:j=k
    ·subst e;refine⟨?_,?_,?_,?_⟩
     ·rw[ac _ (by omega),ac _ (by omega),ac _ (by omega)];exact az _ (by omega)
     ·rw[ac _ (by omega),ac _ (by omega)];exact az _ (by simp;omega)
     ·rw[ac _ (by omega)];exact az _ (by simp;omega)
     ·exact az _ (by simp;omega)
    ·obtain⟨d1,d2,d3,d4⟩:=hdone j hj (by omega);refine⟨?_,?_,?_,?_⟩
     ·rw[ac _ (by omega),ac _ (by omega),ac _ (by omega),ac _ (by omega)];exact d1
     ·rw[ac _ (by omega),ac _ (by omega),ac _ (by omega),ac _ (by omega)];exact d2
     ·rw[ac _ (by omega),ac _ (by omega),ac _ (by omega),ac _ (by omega)];exact d3
     ·rw[ac _ (by omega),ac _ (by omega),ac _ (by omega),ac _ (by omega)];exact d4
   case measure=>simp[intOf];omega
  ·go_wp2;go_ret
   refine⟨rfl,fun j hj=>?_,hb,cur,hblk,hsz⟩;obtain⟨d1,d2,d3,d4⟩:=hdone j hj (by omega);exact⟨w.heap.size,0,rfl,Nat.le_refl _,by rw[aa hblk,Nat.zero_add];exact d1,by rw[aa hblk,Nat.zero_add];exact d2,by rw[aa hblk,Nat.zero_add];exact d3,by rw[aa hblk,Nat.zero_add];exact d4⟩
theorem szFailS_any(a:Option Addr)(n cap:Nat)(left:Int)(w:World)(h0:0<=left)(h1:left<=1048576)(hn:n<=maxLen) :
  Calls Tryz.prog 17 #[.slice a n cap,.int .i64 left] w fun e w'=>e=.returned (.int .i64 (if left<n then -1 else left-n))/\w'=w:=by
 unfold maxLen at hn;by_cases h:left<n
 all_goals
  go_enter Tryz.func17,Tryz.ntmps17
  go_wp2;go_ret
  exact⟨cP (by omega),rfl⟩
theorem toFail_any(f p s t:Int)(w:World) :
  Calls Tryz.prog 54 #[.agg #[.int .i64 f,.int .i64 p,.int .i64 s,.int .i64 t]] w fun e w'=>e=.returned (.agg #[.int .i64 f,.int .i64 p,.int .i64 s,.int .i64 t])/\Below w.heap.size w w':=by
 go_enter Tryz.func54,Tryz.ntmps54
 go_wp2;refine bodyPost_ret (v:=.agg #[.int .i64 f,.int .i64 p,.int .i64 s,.int .i64 t]) (by simp[results,Tryz.results54,go_sem]) rfl ⟨rfl,?_⟩;exact ((gM.alloc nL _).alloc (by simp) _).alloc (by simp;omega) _
theorem info104:(Tryz.prog.info? 104).map (fun i=>(i.zero,i.size,i.bytes))=some (some (.agg #[.int .i64 0,.int .i64 0,.int .i64 0,.int .i64 0]),4,32):=by kernel_rfl
theorem toFailS_any(a:Option Addr)(ss:List Si)(cap:Nat)(w:World)(hn:ss.length<=1048576)(hm:aS w 0 a ss) :
  Calls Tryz.prog 25 #[.slice a ss.length cap] w fun e w'=>e=.returned (.slice (some ⟨w.heap.size,0,none⟩) ss.length ss.length)/\aS w' w.heap.size (some ⟨w.heap.size,0,none⟩) ss/\Below w.heap.size w w':=by
 obtain⟨i0,hi,hz0,hz1,hz2⟩:=info_parts info104;go_enter Tryz.func25,Tryz.ntmps25
 go_wp2_with (first | (at_make;refine wpList_make_full _ rfl _ _ 51 rfl w.heap.size 104 i0 (.agg #[.int .i64 0,.int .i64 0,.int .i64 0,.int .i64 0]) 4 Tryz.underlying51 hi hz0 hz1 _ _ _ _ ss.length rfl rfl rfl rfl (by rw[hz2];omega) (by unfold maxLen;omega) nL ?_;intro w1 hown hgrow))
 obtain⟨cur0,hblk,hsz⟩:=aR hown;have hb0:Below w.heap.size w w1:=gM.grown hgrow nL (by intro k hk;cases hk);clear hown hgrow hi hz0 hz1 hz2;go_loopw [4] (fun i wr=>∃(k:Nat) (cur:Array Value),k<=ss.length/\i=.int .i64 k/\wr.heap[w.heap.size]?=some (.cells cur 104 (0,0))/\cur.size=ss.length*4/\(∀j (hj:j<ss.length),j<k->cur[j*4]?=some (.int .i64 ss[j].f)/\cur[j*4+1]?=some (.int .i64 ss[j].pc)/\cur[j*4+2]?=some (.int .i64 ss[j].seen)/\cur[j*4+3]?=some (.int .i64 ss[j].target))/\Below w.heap.size w wr) (fun i _=>ss.length-(intOf i).toNat)
 case atStart=>exact⟨0,cur0,by omega,rfl,hblk,hsz,fun j _ h=>by omega,hb0⟩
 case round=>
  obtain⟨k,cur,hk,rfl,hblk,hsz,hdone,hb⟩:=hrel;by_cases hlt:k<ss.length
  ·obtain⟨b,off,rfl,-,c1,c2,c3,c4⟩:=hm k hlt;have c1':=cell_later hb c1;have c2':=cell_later hb c2;have c3':=cell_later hb c3;have c4':=cell_later hb c4;clear c1 c2 c3 c4;go_wp2_with fail
   refine (toFail_any _ _ _ _ _).mono ?_;rintro e w2 ⟨rfl,hb2⟩;have hblk2:=ab hblk hb2;have hfz:=am hblk2;have hcl:w2.cell? ⟨w.heap.size,k*4,none⟩=some cur[k*4]:=by rw[aa hblk2];simp
   have hcl2:w2.cell? ⟨w.heap.size,k*4+1,none⟩=some cur[k*4+1]:=by rw[aa hblk2];simp
   have hcl3:w2.cell? ⟨w.heap.size,k*4+2,none⟩=some cur[k*4+2]:=by rw[aa hblk2];simp
   have hcl4:w2.cell? ⟨w.heap.size,k*4+3,none⟩=some cur[k*4+3]:=by rw[aa hblk2];simp
   have hb3:Below w.heap.size w w2:=hb.trans (hb2.mono hb.size);go_wp2;go_roundw
   case rel=>
    refine⟨k+1,(((cur.setIfInBounds (k*4) (.int .i64 ss[k].f)).setIfInBounds (k*4+1) (.int .i64 ss[k].pc)).setIfInBounds (k*4+2) (.int .i64 ss[k].seen)).setIfInBounds (k*4+3) (.int .i64 ss[k].target),by omega,by go_num,ao (ao (ao (ao hblk2 _) _) _) _,by simpa using hsz,?_,(((hb3.setCell nL _).setCell nL _).setCell nL _).setCell nL _⟩;intro j hj hjk;by_cases e:j=k
    ·subst e;refine⟨?_,?_,?_,?_⟩
     ·rw[ac _ (by omega),ac _ (by omega),ac _ (by omega)];exact az _ (by omega)
     ·rw[ac _ (by omega),ac _ (by omega)];exact az _ (by simp;omega)
     ·rw[ac _ (by omega)];exact az _ (by simp;omega)
     ·exact az _ (by simp;omega)
    ·obtain⟨d1,d2,d3,d4⟩:=hdone j hj (by omega);refine⟨?_,?_,?_,?_⟩
     ·rw[ac _ (by omega),ac _ (by omega),ac _ (by omega),ac _ (by omega)];exact d1
     ·rw[ac _ (by omega),ac _ (by omega),ac _ (by omega),ac _ (by omega)];exact d2
     ·rw[ac _ (by omega),ac _ (by omega),ac _ (by omega),ac _ (by omega)];exact d3
     ·rw[ac _ (by omega),ac _ (by omega),ac _ (by omega),ac _ (by omega)];exact d4
   case measure=>simp[intOf];omega
  ·go_wp2;go_ret
   refine⟨rfl,fun j hj=>?_,hb⟩;obtain⟨d1,d2,d3,d4⟩:=hdone j hj (by omega);exact⟨w.heap.size,0,rfl,Nat.le_refl _,by rw[aa hblk,Nat.zero_add];exact d1,by rw[aa hblk,Nat.zero_add];exact d2,by rw[aa hblk,Nat.zero_add];exact d3,by rw[aa hblk,Nat.zero_add];exact d4⟩
theorem eqFail_same(f p s t:Int)(w:World) :
  Calls Tryz.prog 76 #[.agg #[.int .i64 f,.int .i64 p,.int .i64 s,.int .i64 t],.agg #[.int .i64 f,.int .i64 p,.int .i64 s,.int .i64 t]] w fun e w'=>e=.returned (.bool true)/\Below w.heap.size w w':=by
 go_enter Tryz.func76,Tryz.ntmps76
 go_wp2;go_ret
 exact⟨rfl,(gM.alloc nL _).alloc (by simp) _⟩
theorem eqFailS_any(a a2:Option Addr)(ss:List Si)(cap cap2:Nat)(w:World)(hn:ss.length<=1048576)(hm:aS w 0 a ss)(hm2:aS w 0 a2 ss) :
  Calls Tryz.prog 36 #[.slice a ss.length cap,.slice a2 ss.length cap2] w fun e w'=>e=.returned (.bool true)/\Below w.heap.size w w':=by
 go_enter Tryz.func36,Tryz.ntmps36
 go_wp2;go_loopw [5] (fun i wr=>∃(k:Nat),k<=ss.length/\i=.int .i64 k/\Below w.heap.size w wr) (fun i _=>ss.length-(intOf i).toNat)
 case atStart=>exact⟨0,by omega,rfl,Below.refl _ _⟩
 case round=>
  obtain⟨k,hk,rfl,hb⟩:=hrel;by_cases hlt:k<ss.length
  ·obtain⟨b,off,rfl,-,c1,d1,e1,f1⟩:=hm k hlt;obtain⟨b2,off2,rfl,-,c2,d2,e2,f2⟩:=hm2 k hlt;have c1':=cell_later hb c1;have c2':=cell_later hb c2;have d1':=cell_later hb d1;have d2':=cell_later hb d2;have e1':=cell_later hb e1;have e2':=cell_later hb e2;have f1':=cell_later hb f1;have f2':=cell_later hb f2;clear c1 c2 d1 d2 e1 e2 f1 f2;go_wp2;go_region_with (go_at_call 76;refine (eqFail_same _ _ _ _ _).mono ?_;rintro e w1 ⟨rfl,hb1⟩)
   all_goals
    go_wp2;go_roundw
    case rel=>
     refine⟨k+1,by omega,by go_num,Below.trans ?_ (hb1.mono ?_)⟩
     ·repeat (first | exact hb | apply Below.drew)
     ·exact hb.size
    case measure=>simp[intOf];omega
  ·go_wp2;go_ret
   exact⟨rfl,hb⟩
open Go.Deep Go.ChangeShapes Go.WideShapes Go.Joins
theorem toFailS_made(a:Option Addr)(ss:List Si)(cap:Nat)(w:World)(hn:ss.length<=1048576)(hm:aS w 0 a ss) :
  Calls Tryz.prog 25 #[.slice a ss.length cap] w fun e w'=>e=.returned (.slice (some ⟨w.heap.size,0,none⟩) ss.length ss.length)/\aS w' w.heap.size (some ⟨w.heap.size,0,none⟩) ss/\Below w.heap.size w w'/\(∃cur,w'.heap[w.heap.size]?=some (.cells cur 104 (0,0))/\cur.size=ss.length*4):=by
 obtain⟨i0,hi,hz0,hz1,hz2⟩:=info_parts info104;go_enter Tryz.func25,Tryz.ntmps25
 go_wp2_with (first | (at_make;refine wpList_make_full _ rfl _ _ 51 rfl w.heap.size 104 i0 (.agg #[.int .i64 0,.int .i64 0,.int .i64 0,.int .i64 0]) 4 Tryz.underlying51 hi hz0 hz1 _ _ _ _ ss.length rfl rfl rfl rfl (by rw[hz2];omega) (by unfold maxLen;omega) nL ?_;intro w1 hown hgrow))
 obtain⟨cur0,hblk,hsz⟩:=aR hown;have hb0:Below w.heap.size w w1:=gM.grown hgrow nL (by intro k hk;cases hk);clear hown hgrow hi hz0 hz1 hz2;go_loopw [4] (fun i wr=>∃(k:Nat) (cur:Array Value),k<=ss.length/\i=.int .i64 k/\wr.heap[w.heap.size]?=some (.cells cur 104 (0,0))/\cur.size=ss.length*4/\(∀j (hj:j<ss.length),j<k->cur[j*4]?=some (.int .i64 ss[j].f)/\cur[j*4+1]?=some (.int .i64 ss[j].pc)/\cur[j*4+2]?=some (.int .i64 ss[j].seen)/\cur[j*4+3]?=some (.int .i64 ss[j].target))/\Below w.heap.size w wr) (fun i _=>ss.length-(intOf i).toNat)
 case atStart=>exact⟨0,cur0,by omega,rfl,hblk,hsz,fun j _ h=>by omega,hb0⟩
 case round=>
  obtain⟨k,cur,hk,rfl,hblk,hsz,hdone,hb⟩:=hrel;by_cases hlt:k<ss.length
  ·obtain⟨b,off,rfl,-,c1,c2,c3,c4⟩:=hm k hlt;have c1':=cell_later hb c1;have c2':=cell_later hb c2;have c3':=cell_later hb c3;have c4':=cell_later hb c4;clear c1 c2 c3 c4;go_wp2_with fail
   refine (toFail_any _ _ _ _ _).mono ?_;rintro e w2 ⟨rfl,hb2⟩;have hblk2:=ab hblk hb2;have hfz:=am hblk2;have hcl:w2.cell? ⟨w.heap.size,k*4,none⟩=some cur[k*4]:=by rw[aa hblk2];simp
   have hcl2:w2.cell? ⟨w.heap.size,k*4+1,none⟩=some cur[k*4+1]:=by rw[aa hblk2];simp
   have hcl3:w2.cell? ⟨w.heap.size,k*4+2,none⟩=some cur[k*4+2]:=by rw[aa hblk2];simp
   have hcl4:w2.cell? ⟨w.heap.size,k*4+3,none⟩=some cur[k*4+3]:=by rw[aa hblk2];simp
   have hb3:Below w.heap.size w w2:=hb.trans (hb2.mono hb.size);go_wp2;go_roundw
   case rel=>
    refine⟨k+1,(((cur.setIfInBounds (k*4) (.int .i64 ss[k].f)).setIfInBounds (k*4+1) (.int .i64 ss[k].pc)).setIfInBounds (k*4+2) (.int .i64 ss[k].seen)).setIfInBounds (k*4+3) (.int .i64 ss[k].target),by omega,by go_num,ao (ao (ao (ao hblk2 _) _) _) _,by simpa using hsz,?_,(((hb3.setCell nL _).setCell nL _).setCell nL _).setCell nL _⟩;intro j hj hjk;by_cases e:j=k
    ·subst e;refine⟨?_,?_,?_,?_⟩
     ·rw[ac _ (by omega),ac _ (by omega),ac _ (by omega)];exact az _ (by omega)
     ·rw[ac _ (by omega),ac _ (by omega)];exact az _ (by simp;omega)
     ·rw[ac _ (by omega)];exact az _ (by simp;omega)
     ·exact az _ (by simp;omega)
    ·obtain⟨d1,d2,d3,d4⟩:=hdone j hj (by omega);refine⟨?_,?_,?_,?_⟩
     ·rw[ac _ (by omega),ac _ (by omega),ac _ (by omega),ac _ (by omega)];exact d1
     ·rw[ac _ (by omega),ac _ (by omega),ac _ (by omega),ac _ (by omega)];exact d2
     ·rw[ac _ (by omega),ac _ (by omega),ac _ (by omega),ac _ (by omega)];exact d3
     ·rw[ac _ (by omega),ac _ (by omega),ac _ (by omega),ac _ (by omega)];exact d4
   case measure=>simp[intOf];omega
  ·go_wp2;go_ret
   refine⟨rfl,fun j hj=>?_,hb,cur,hblk,hsz⟩;obtain⟨d1,d2,d3,d4⟩:=hdone j hj (by omega);exact⟨w.heap.size,0,rfl,Nat.le_refl _,by rw[aa hblk,Nat.zero_add];exact d1,by rw[aa hblk,Nat.zero_add];exact d2,by rw[aa hblk,Nat.zero_add];exact d3,by rw[aa hblk,Nat.zero_add];exact d4⟩
def VB (w:World)(lo:Nat)(a:Option Addr)(vs:List Vl):Prop:=aO w lo a vs/\∃g,a=some ⟨g,0,none⟩/\lo<=g/\cV w g vs.length
theorem cV.above{w w':World}{lo g n:Nat}(h:cV w g n)(hb:aL lo w w')(hg:lo<=g):cV w' g n:=by
 obtain⟨c,h1,h2⟩:=h;exact⟨c,cI hb hg h1,h2⟩
theorem VB.mono{w w':World}{lo:Nat}{a:Option Addr}{vs:List Vl}(h:VB w lo a vs)(hb:Below w.heap.size w w'):VB w' lo a vs:=by
 obtain⟨h1,g,h2,h3,h4⟩:=h;exact⟨h1.mono hb,g,h2,h3,h4.mono hb⟩
theorem VB.above{w w':World}{lo:Nat}{a:Option Addr}{vs:List Vl}(h:VB w lo a vs)(hb:aL lo w w'):VB w' lo a vs:=by
 obtain⟨h1,g,h2,h3,h4⟩:=h;exact⟨h1.above hb,g,h2,h3,h4.above hb h3⟩
theorem VB.low{w:World}{lo lo':Nat}{a:Option Addr}{vs:List Vl}(h:VB w lo a vs)(hl:lo'<=lo):VB w lo' a vs:=by
 obtain⟨h1,g,h2,h3,h4⟩:=h;exact⟨h1.low hl,g,h2,Nat.le_trans hl h3,h4⟩
def FB (w:World)(lo:Nat)(a:Option Addr)(fr:List Fr):Prop:=∃F cur,a=some ⟨F,0,none⟩/\lo<=F/\w.heap[F]?=some (.cells cur 163 (0,0))/\cur.size=fr.length*4 /\
 ∀j (hj:j<fr.length),cur[j*4]?=some (.int .i64 fr[j].fn)/\cur[j*4+1]?=some (.int .i64 fr[j].pc)/\∃g g2,cur[j*4+2]?=some (.slice (some ⟨g,0,none⟩) fr[j].locals.length fr[j].locals.length)/\cur[j*4+3]?=some (.slice (some ⟨g2,0,none⟩) fr[j].stack.length fr[j].stack.length)/\VB w lo (some ⟨g,0,none⟩) fr[j].locals/\VB w lo (some ⟨g2,0,none⟩) fr[j].stack
def RB (w:World)(lo:Nat)(a:Option Addr)(rs:List (List Vl)):Prop:=∃R cur,a=some ⟨R,0,none⟩/\lo<=R/\w.heap[R]?=some (.cells cur 158 (0,0))/\cur.size=rs.length*1 /\
 ∀j (hj:j<rs.length),∃g,cur[j]?=some (.slice (some ⟨g,0,none⟩) rs[j].length rs[j].length)/\VB w lo (some ⟨g,0,none⟩) rs[j]
def OB (w:World)(lo:Nat)(a:Option Addr)(ss:List ByteArray):Prop:=aT w lo a ss/\∃g,a=some ⟨g,0,none⟩/\lo<=g/\de w g ss.length
theorem FB.mono{w w':World}{lo:Nat}{a:Option Addr}{fr:List Fr}(h:FB w lo a fr)(hb:Below w.heap.size w w'):FB w' lo a fr:=by
 obtain⟨F,cur,h1,h2,h3,h4,h5⟩:=h;refine⟨F,cur,h1,h2,ab h3 hb,h4,fun j hj=>?_⟩;obtain⟨d1,d2,g,g2,d3,d4,d5,d6⟩:=h5 j hj;exact⟨d1,d2,g,g2,d3,d4,d5.mono hb,d6.mono hb⟩
theorem FB.above{w w':World}{lo:Nat}{a:Option Addr}{fr:List Fr}(h:FB w lo a fr)(hb:aL lo w w'):FB w' lo a fr:=by
 obtain⟨F,cur,h1,h2,h3,h4,h5⟩:=h;refine⟨F,cur,h1,h2,cI hb h2 h3,h4,fun j hj=>?_⟩;obtain⟨d1,d2,g,g2,d3,d4,d5,d6⟩:=h5 j hj;exact⟨d1,d2,g,g2,d3,d4,d5.above hb,d6.above hb⟩
theorem FB.low{w:World}{lo lo':Nat}{a:Option Addr}{fr:List Fr}(h:FB w lo a fr)(hl:lo'<=lo):FB w lo' a fr:=by
 obtain⟨F,cur,h1,h2,h3,h4,h5⟩:=h;refine⟨F,cur,h1,Nat.le_trans hl h2,h3,h4,fun j hj=>?_⟩;obtain⟨d1,d2,g,g2,d3,d4,d5,d6⟩:=h5 j hj;exact⟨d1,d2,g,g2,d3,d4,d5.low hl,d6.low hl⟩
theorem RB.mono{w w':World}{lo:Nat}{a:Option Addr}{rs:List (List Vl)}(h:RB w lo a rs)(hb:Below w.heap.size w w'):RB w' lo a rs:=by
 obtain⟨F,cur,h1,h2,h3,h4,h5⟩:=h;refine⟨F,cur,h1,h2,ab h3 hb,h4,fun j hj=>?_⟩;obtain⟨g,d1,d2⟩:=h5 j hj;exact⟨g,d1,d2.mono hb⟩
theorem RB.above{w w':World}{lo:Nat}{a:Option Addr}{rs:List (List Vl)}(h:RB w lo a rs)(hb:aL lo w w'):RB w' lo a rs:=by
 obtain⟨F,cur,h1,h2,h3,h4,h5⟩:=h;refine⟨F,cur,h1,h2,cI hb h2 h3,h4,fun j hj=>?_⟩;obtain⟨g,d1,d2⟩:=h5 j hj;exact⟨g,d1,d2.above hb⟩
theorem RB.low{w:World}{lo lo':Nat}{a:Option Addr}{rs:List (List Vl)}(h:RB w lo a rs)(hl:lo'<=lo):RB w lo' a rs:=by
 obtain⟨F,cur,h1,h2,h3,h4,h5⟩:=h;refine⟨F,cur,h1,Nat.le_trans hl h2,h3,h4,fun j hj=>?_⟩;obtain⟨g,d1,d2⟩:=h5 j hj;exact⟨g,d1,d2.low hl⟩
theorem OB.mono{w w':World}{lo:Nat}{a:Option Addr}{ss:List ByteArray}(h:OB w lo a ss)(hb:Below w.heap.size w w'):OB w' lo a ss:=by
 obtain⟨h1,g,h2,h3,h4⟩:=h;exact⟨h1.mono hb,g,h2,h3,h4.mono hb⟩
theorem OB.above{w w':World}{lo:Nat}{a:Option Addr}{ss:List ByteArray}(h:OB w lo a ss)(hb:aL lo w w'):OB w' lo a ss:=by
 obtain⟨h1,g,h2,h3,h4⟩:=h;exact⟨h1.above hb,g,h2,h3,h4.above hb h3⟩
theorem OB.low{w:World}{lo lo':Nat}{a:Option Addr}{ss:List ByteArray}(h:OB w lo a ss)(hl:lo'<=lo):OB w lo' a ss:=by
 obtain⟨h1,g,h2,h3,h4⟩:=h;exact⟨h1.low hl,g,h2,Nat.le_trans hl h3,h4⟩
structure VmB (w:World)(lo:Nat)(fa ha oa:Option Addr)(d:VmD):Prop where
 frs:FB w lo fa d.frames
 recs:RB w lo ha d.heap
 out:OB w lo oa d.out
theorem VmB.mono{w w':World}{lo:Nat}{fa ha oa:Option Addr}{d:VmD}(h:VmB w lo fa ha oa d)(hb:Below w.heap.size w w'):VmB w' lo fa ha oa d:=⟨h.frs.mono hb,h.recs.mono hb,h.out.mono hb⟩
theorem VmB.above{w w':World}{lo:Nat}{fa ha oa:Option Addr}{d:VmD}(h:VmB w lo fa ha oa d)(hb:aL lo w w'):VmB w' lo fa ha oa d:=⟨h.frs.above hb,h.recs.above hb,h.out.above hb⟩
theorem VmB.low{w:World}{lo lo':Nat}{fa ha oa:Option Addr}{d:VmD}(h:VmB w lo fa ha oa d)(hl:lo'<=lo):VmB w lo' fa ha oa d:=⟨h.frs.low hl,h.recs.low hl,h.out.low hl⟩
theorem VmB.at{w:World}{lo:Nat}{fa ha oa:Option Addr}{d:VmD}(h:VmB w lo fa ha oa d):VmAt w lo fa ha oa d:=by
 refine⟨fun i hi=>?_,fun i hi=>?_,h.out.1⟩
 ·obtain⟨F,cur,rfl,h2,h3,h4,h5⟩:=h.frs;obtain⟨d1,d2,g,g2,d3,d4,d5,d6⟩:=h5 i hi;exact⟨F,0,_,_,_,_,rfl,h2,by rw[aa h3,Nat.zero_add];exact d1,by rw[aa h3,Nat.zero_add];exact d2,by rw[aa h3,Nat.zero_add];exact d3,by rw[aa h3,Nat.zero_add];exact d4,d5.1,d6.1⟩
 ·obtain⟨F,cur,rfl,h2,h3,h4,h5⟩:=h.recs;obtain⟨g,d1,d2⟩:=h5 i hi;exact⟨F,0,_,_,rfl,h2,by rw[aa h3,Nat.zero_add];exact d1,d2.1⟩
theorem toRec_b(a:Option Addr)(vs:List Vl)(cap:Nat)(w:World)(hn:vs.length<=1048576)(hm:aO w 0 a vs) :
  Calls Tryz.prog 97 #[.agg #[.slice a vs.length cap]] w fun e w'=>∃g,w.heap.size<=g/\e=.returned (.agg #[.slice (some ⟨g,0,none⟩) vs.length vs.length])/\VB w' w.heap.size (some ⟨g,0,none⟩) vs/\Below w.heap.size w w':=by
 go_enter Tryz.func97,Tryz.ntmps97
 go_wp2_with fail
 have hbA:Below w.heap.size w (((w.alloc (.cells #[.slice a vs.length cap] 145)).alloc (.cells #[.slice none 0 0] 158)).alloc (.cells #[.slice none 0 0] 158)):=
  ((gM.alloc nL _).alloc (by simp) _).alloc (by simp;omega) _
 refine (cm a vs cap _ hn (hm.mono hbA)).mono ?_;rintro e w1 ⟨rfl,hv0,hvb,hb⟩;have hv:VB w1 _ _ vs:=⟨hv0,_,rfl,Nat.le_refl _,hvb⟩;clear hv0 hvb;have hR:=ab (al (ah (w.alloc (.cells #[.slice a vs.length cap] 145)) #[.slice none 0 0] 158) (.cells #[.slice none 0 0] 158)) hb;have hO:=ab (ah ((w.alloc (.cells #[.slice a vs.length cap] 145)).alloc (.cells #[.slice none 0 0] 158)) #[.slice none 0 0] 158) hb;simp only[World.size_alloc] at hR hO hv
 have r1:=aa hR;have r2:=am hR;have o1:=aa hO;have o2:=am hO;have hb1:Below w.heap.size w w1:=hbA.trans (hb.mono (by simp;omega));go_wp2;refine bodyPost_ret (v:=.agg #[.slice (some ⟨w.heap.size+1+1+1,0,none⟩) vs.length vs.length]) (by simp[results,Tryz.results97,go_sem,r1]) rfl ⟨_,by omega,rfl,?_,?_⟩
 ·exact (hv.above (((aL.refl _ _).setCell (by simp) _).setCell (by simp) _)).low (by omega)
 ·exact (hb1.setCell (by simp;omega) _).setCell (by simp) _
theorem toFrame_b(f p:Int)(a a2:Option Addr)(vs us:List Vl)(cap cap2:Nat)(w:World)(hn:vs.length<=1048576)(hn2:us.length<=1048576)(hm:aO w 0 a vs)(hm2:aO w 0 a2 us) :
  Calls Tryz.prog 96 #[.agg #[.int .i64 f,.int .i64 p,.slice a vs.length cap,.slice a2 us.length cap2]] w fun e w'=>∃g g2,w.heap.size<=g/\w.heap.size<=g2/\e=.returned (.agg #[.int .i64 f,.int .i64 p,.slice (some ⟨g,0,none⟩) vs.length vs.length,.slice (some ⟨g2,0,none⟩) us.length us.length])/\VB w' w.heap.size (some ⟨g,0,none⟩) vs/\VB w' w.heap.size (some ⟨g2,0,none⟩) us/\Below w.heap.size w w':=by
 go_enter Tryz.func96,Tryz.ntmps96
 go_wp2_with fail
 have hbA:Below w.heap.size w (((w.alloc (.cells #[.int .i64 f,.int .i64 p,.slice a vs.length cap,.slice a2 us.length cap2] 142)).alloc (.cells #[.int .i64 0,.int .i64 0,.slice none 0 0,.slice none 0 0] 163)).alloc (.cells #[.int .i64 f,.int .i64 p,.slice none 0 0,.slice none 0 0] 163)):=
  ((gM.alloc nL _).alloc (by simp) _).alloc (by simp;omega) _
 refine (cm a vs cap _ hn (hm.mono hbA)).mono ?_;rintro e w1 ⟨rfl,hv0,hvb,hb⟩;have hv:VB w1 _ _ vs:=⟨hv0,_,rfl,Nat.le_refl _,hvb⟩;clear hv0 hvb;have hI:=ab (al (al (ah w #[.int .i64 f,.int .i64 p,.slice a vs.length cap,.slice a2 us.length cap2] 142) (.cells #[.int .i64 0,.int .i64 0,.slice none 0 0,.slice none 0 0] 163)) (.cells #[.int .i64 f,.int .i64 p,.slice none 0 0,.slice none 0 0] 163)) hb;have hR:=ab (al (ah (w.alloc (.cells #[.int .i64 f,.int .i64 p,.slice a vs.length cap,.slice a2 us.length cap2] 142)) #[.int .i64 0,.int .i64 0,.slice none 0 0,.slice none 0 0] 163) (.cells #[.int .i64 f,.int .i64 p,.slice none 0 0,.slice none 0 0] 163)) hb;have hO:=ab (ah ((w.alloc (.cells #[.int .i64 f,.int .i64 p,.slice a vs.length cap,.slice a2 us.length cap2] 142)).alloc (.cells #[.int .i64 0,.int .i64 0,.slice none 0 0,.slice none 0 0] 163)) #[.int .i64 f,.int .i64 p,.slice none 0 0,.slice none 0 0] 163) hb;simp only[World.size_alloc] at hI hR hO hv
 have hb1:Below w.heap.size w w1:=hbA.trans (hb.mono (by simp;omega));have hz:w.heap.size+1+1<w1.heap.size:=aq hO;obtain⟨wx,hwx⟩:∃wx,wx=w1.setCell ⟨w.heap.size+1+1,2,none⟩ (.slice (some ⟨w.heap.size+1+1+1,0,none⟩) vs.length vs.length):=⟨_,rfl⟩;have hO':wx.heap[w.heap.size+1+1]?=some (.cells #[.int .i64 f,.int .i64 p,.slice (some ⟨w.heap.size+1+1+1,0,none⟩) vs.length vs.length,.slice none 0 0] 163 (0,0)):=by
  rw[hwx];simpa using ao (i:=2) hO (.slice (some ⟨w.heap.size+1+1+1,0,none⟩) vs.length vs.length)
 have hR':wx.heap[w.heap.size+1]?=some (.cells #[.int .i64 0,.int .i64 0,.slice none 0 0,.slice none 0 0] 163 (0,0)):=by
  rw[hwx,Below.heap_setCell _ _ _ _ (by simp)];exact hR
 have hb2:Below w.heap.size w wx:=by rw[hwx];exact hb1.setCell (by simp;omega) _
 have hv2:VB wx (w.heap.size+1+1+1) (some ⟨w.heap.size+1+1+1,0,none⟩) vs:=by rw[hwx];exact hv.above ((aL.refl _ _).setCell (by simp) _)
 have hsz:wx.heap.size=w1.heap.size:=by rw[hwx];simp
 have i1:=aa hI;have o1:=aa hO;have o2:=am hO;go_wp2_with fail
 rw[<-hwx];clear hwx i1 o1 o2;refine (cm a2 us cap2 _ hn2 (hm2.mono hb2)).mono ?_;rintro e w3 ⟨rfl,hu0,hub,hb3⟩;have hu:VB w3 _ _ us:=⟨hu0,_,rfl,Nat.le_refl _,hub⟩;clear hu0 hub;have hO3:=ab hO' hb3;have hR3:=ab hR' hb3;have hB3:=hb2.trans (hb3.mono hb2.size);have hv3:=hv2.mono hb3;have r1:=aa hR3;have r2:=am hR3;have o1:=aa hO3;have o2:=am hO3;clear hO hR hI hv hb1 hb hbA;go_wp2;refine bodyPost_ret (v:=.agg #[.int .i64 f,.int .i64 p,.slice (some ⟨w.heap.size+1+1+1,0,none⟩) vs.length vs.length,.slice (some ⟨wx.heap.size,0,none⟩) us.length us.length]) (by simp[results,Tryz.results96,go_sem,r1]) rfl ⟨_,_,by omega,by omega,rfl,?_,?_,?_⟩
 · exact (hv3.above (((((aL.refl _ _).setCell (by simp) _).setCell (by simp) _).setCell (by simp) _).setCell (by simp) _ |>.setCell (by simp) _)).low (by omega)
 · exact ((hu.low (by omega : w.heap.size + 1 + 1 + 1 <= wx.heap.size)).above (((((aL.refl _ _).setCell (by simp) _).setCell (by simp) _).setCell (by simp) _).setCell (by simp) _ |>.setCell (by simp) _)).low (by omega)
 ·exact ((((hB3.setCell (by simp;omega) _).setCell (by simp) _).setCell (by simp) _).setCell (by simp) _).setCell (by simp) _
theorem toRecS_b(a:Option Addr)(rs:List (List Vl))(cap:Nat)(w:World)(hn:rs.length<=1048576)(hc:∀r∈rs,aK r)(hm:cE w 0 a rs) :
  Calls Tryz.prog 50 #[.slice a rs.length cap] w fun e w'=>e=.returned (.slice (some ⟨w.heap.size,0,none⟩) rs.length rs.length)/\RB w' w.heap.size (some ⟨w.heap.size,0,none⟩) rs/\Below w.heap.size w w':=by
 obtain⟨i0,hi,hz0,hz1,hz2⟩:=info_parts info158;go_enter Tryz.func50,Tryz.ntmps50
 go_wp2_with (first | (at_make;refine wpList_make_full _ rfl _ _ 45 rfl w.heap.size 158 i0 (.agg #[.slice none 0 0]) 1 Tryz.underlying45 hi hz0 hz1 _ _ _ _ rs.length rfl rfl rfl rfl (by rw[hz2];omega) (by unfold maxLen;omega) nL ?_;intro w1 hown hgrow))
 obtain⟨cur0,hblk,hsz⟩:=aR hown;have hb0:Below w.heap.size w w1:=gM.grown hgrow nL (by intro k hk;cases hk);clear hown hgrow hi hz0 hz1 hz2
 go_loopw [4] (fun i wr=>∃(k:Nat) (cur:Array Value),k<=rs.length/\i=.int .i64 k/\wr.heap[w.heap.size]?=some (.cells cur 158 (0,0))/\cur.size=rs.length*1 /\
   (∀j (hj:j<rs.length),j<k->∃g,cur[j]?=some (.slice (some ⟨g,0,none⟩) rs[j].length rs[j].length)/\VB wr (w.heap.size+1) (some ⟨g,0,none⟩) rs[j])/\Below w.heap.size w wr) (fun i _=>rs.length-(intOf i).toNat)
 case atStart=>exact⟨0,cur0,by omega,rfl,hblk,hsz,fun j _ h=>by omega,hb0⟩
 case round=>
  obtain⟨k,cur,hk,rfl,hblk,hsz,hdone,hb⟩:=hrel;by_cases hlt:k<rs.length
  ·obtain⟨b,off,ca,cc,rfl,-,c1,c4⟩:=hm k hlt;have c1':=cell_later hb c1;clear c1;have hgs:w.heap.size<wr.heap.size:=aq hblk;have hck:=(hc rs[k] (n_l hlt)).1;go_wp2_with fail
   refine (toRec_b _ _ _ _ hck (c4.mono hb)).mono ?_;rintro e w2 ⟨g,hg,rfl,hcode,hb2⟩;have hblk2:=ab hblk hb2;have hfz:=am hblk2;have hcl:w2.cell? ⟨w.heap.size,k,none⟩=some cur[k]:=by rw[aa hblk2];simp
   have hb3:Below w.heap.size w w2:=hb.trans (hb2.mono hb.size);go_wp2;go_roundw
   case rel=>
    have hab:aL (w.heap.size+1) w2 (w2.setCell ⟨w.heap.size,k,none⟩ (.slice (some ⟨g,0,none⟩) rs[k].length rs[k].length)):=(aL.refl _ _).setCell (by simp) _;refine⟨k+1,cur.setIfInBounds k (.slice (some ⟨g,0,none⟩) rs[k].length rs[k].length),by omega,by go_num,ao hblk2 _,by simpa using hsz,?_,hb3.setCell nL _⟩;intro j hj hjk;by_cases e:j=k
    ·subst e;exact⟨g,az _ (by omega),(hcode.low (by omega)).above hab⟩
    ·obtain⟨g',d3,d4⟩:=hdone j hj (by omega);exact⟨g',by rw[ac _ (by omega)];exact d3,(d4.mono hb2).above hab⟩
   case measure=>simp[intOf];omega
  ·go_wp2;go_ret
   refine⟨rfl,⟨w.heap.size,cur,rfl,Nat.le_refl _,hblk,hsz,fun j hj=>?_⟩,hb⟩;obtain⟨g',d3,d4⟩:=hdone j hj (by omega);exact⟨g',d3,d4.low (by omega)⟩
theorem toFrameS_b(a:Option Addr)(fr:List Fr)(cap:Nat)(w:World)(hn:fr.length<=1048576)(hc:∀f∈fr,aK f.locals)(hc2:∀f∈fr,aK f.stack)(hm:FrsAt w 0 a fr) :
  Calls Tryz.prog 49 #[.slice a fr.length cap] w fun e w'=>e=.returned (.slice (some ⟨w.heap.size,0,none⟩) fr.length fr.length)/\FB w' w.heap.size (some ⟨w.heap.size,0,none⟩) fr/\Below w.heap.size w w':=by
 obtain⟨i0,hi,hz0,hz1,hz2⟩:=info_parts info163;go_enter Tryz.func49,Tryz.ntmps49
 go_wp2_with (first | (at_make;refine wpList_make_full _ rfl _ _ 44 rfl w.heap.size 163 i0 (.agg #[.int .i64 0,.int .i64 0,.slice none 0 0,.slice none 0 0]) 4 Tryz.underlying44 hi hz0 hz1 _ _ _ _ fr.length rfl rfl rfl rfl (by rw[hz2];omega) (by unfold maxLen;omega) nL ?_;intro w1 hown hgrow))
 obtain⟨cur0,hblk,hsz⟩:=aR hown;have hb0:Below w.heap.size w w1:=gM.grown hgrow nL (by intro k hk;cases hk);clear hown hgrow hi hz0 hz1 hz2
 go_loopw [4] (fun i wr=>∃(k:Nat) (cur:Array Value),k<=fr.length/\i=.int .i64 k/\wr.heap[w.heap.size]?=some (.cells cur 163 (0,0))/\cur.size=fr.length*4 /\
   (∀j (hj:j<fr.length),j<k->cur[j*4]?=some (.int .i64 fr[j].fn)/\cur[j*4+1]?=some (.int .i64 fr[j].pc)/\∃g g2,cur[j*4+2]?=some (.slice (some ⟨g,0,none⟩) fr[j].locals.length fr[j].locals.length)/\cur[j*4+3]?=some (.slice (some ⟨g2,0,none⟩) fr[j].stack.length fr[j].stack.length)/\VB wr (w.heap.size+1) (some ⟨g,0,none⟩) fr[j].locals/\VB wr (w.heap.size+1) (some ⟨g2,0,none⟩) fr[j].stack)/\Below w.heap.size w wr) (fun i _=>fr.length-(intOf i).toNat)
 case atStart=>exact⟨0,cur0,by omega,rfl,hblk,hsz,fun j _ h=>by omega,hb0⟩
 case round=>
  obtain⟨k,cur,hk,rfl,hblk,hsz,hdone,hb⟩:=hrel;by_cases hlt:k<fr.length
  ·obtain⟨b,off,la,lc,sa,sc,rfl,-,c1,c2,c3,c4,c5,c6⟩:=hm k hlt;have c1':=cell_later hb c1;have c2':=cell_later hb c2;have c3':=cell_later hb c3;have c4':=cell_later hb c4;clear c1 c2 c3 c4;have hgs:w.heap.size<wr.heap.size:=aq hblk;have hck:=(hc fr[k] (n_l hlt)).1;have hck2:=(hc2 fr[k] (n_l hlt)).1;go_wp2_with fail
   refine (toFrame_b _ _ _ _ _ _ _ _ _ hck hck2 (c5.mono hb) (c6.mono hb)).mono ?_;rintro e w2 ⟨g,g2,hg,hg2,rfl,hl,hs,hb2⟩;have hblk2:=ab hblk hb2;have hfz:=am hblk2;have hcl:w2.cell? ⟨w.heap.size,k*4,none⟩=some cur[k*4]:=by rw[aa hblk2];simp
   have hcl2:w2.cell? ⟨w.heap.size,k*4+1,none⟩=some cur[k*4+1]:=by rw[aa hblk2];simp
   have hcl3:w2.cell? ⟨w.heap.size,k*4+2,none⟩=some cur[k*4+2]:=by rw[aa hblk2];simp
   have hcl4:w2.cell? ⟨w.heap.size,k*4+3,none⟩=some cur[k*4+3]:=by rw[aa hblk2];simp
   have hb3:Below w.heap.size w w2:=hb.trans (hb2.mono hb.size);go_wp2;go_roundw
   case rel=>
    have hab:aL (w.heap.size+1) w2 ((((w2.setCell ⟨w.heap.size,k*4,none⟩ (.int .i64 fr[k].fn)).setCell ⟨w.heap.size,k*4+1,none⟩ (.int .i64 fr[k].pc)).setCell ⟨w.heap.size,k*4+2,none⟩ (.slice (some ⟨g,0,none⟩) fr[k].locals.length fr[k].locals.length)).setCell ⟨w.heap.size,k*4+3,none⟩ (.slice (some ⟨g2,0,none⟩) fr[k].stack.length fr[k].stack.length)):=
     ((((aL.refl _ _).setCell (by simp) _).setCell (by simp) _).setCell (by simp) _).setCell (by simp) _
    refine⟨k+1,(((cur.setIfInBounds (k*4) (.int .i64 fr[k].fn)).setIfInBounds (k*4+1) (.int .i64 fr[k].pc)).setIfInBounds (k*4+2) (.slice (some ⟨g,0,none⟩) fr[k].locals.length fr[k].locals.length)).setIfInBounds (k*4+3) (.slice (some ⟨g2,0,none⟩) fr[k].stack.length fr[k].stack.length),by omega,by go_num,ao (ao (ao (ao hblk2 _) _) _) _,by simpa using hsz,?_,(((hb3.setCell nL _).setCell nL _).setCell nL _).setCell nL _⟩;intro j hj hjk;by_cases e:j=k
    ·subst e;refine⟨?_,?_,g,g2,?_,?_,(hl.low (by omega)).above hab,(hs.low (by omega)).above hab⟩
     ·rw[ac _ (by omega),ac _ (by omega),ac _ (by omega)];exact az _ (by omega)
     ·rw[ac _ (by omega),ac _ (by omega)];exact az _ (by simp;omega)
     ·rw[ac _ (by omega)];exact az _ (by simp;omega)
     ·exact az _ (by simp;omega)
    ·obtain⟨d1,d2,g',g2',d3,d4,d5,d6⟩:=hdone j hj (by omega);refine⟨?_,?_,g',g2',?_,?_,(d5.mono hb2).above hab,(d6.mono hb2).above hab⟩
     ·rw[ac _ (by omega),ac _ (by omega),ac _ (by omega),ac _ (by omega)];exact d1
     ·rw[ac _ (by omega),ac _ (by omega),ac _ (by omega),ac _ (by omega)];exact d2
     ·rw[ac _ (by omega),ac _ (by omega),ac _ (by omega),ac _ (by omega)];exact d3
     ·rw[ac _ (by omega),ac _ (by omega),ac _ (by omega),ac _ (by omega)];exact d4
   case measure=>simp[intOf];omega
  ·go_wp2;go_ret
   refine⟨rfl,⟨w.heap.size,cur,rfl,Nat.le_refl _,hblk,hsz,fun j hj=>?_⟩,hb⟩;obtain⟨d1,d2,g',g2',d3,d4,d5,d6⟩:=hdone j hj (by omega);exact⟨d1,d2,g',g2',d3,d4,d5.low (by omega),d6.low (by omega)⟩
theorem toVm_b(fa ha oa:Option Addr)(fc hcp oc:Nat)(d:VmD)(w:World)(hx:bU d)(hm:VmAt w 0 fa ha oa d) :
  Calls Tryz.prog 22 #[.agg (aQ fa ha oa fc hcp oc d)] w fun e w'=>∃g g2 g3,e=.returned (.agg (aQ (some ⟨g,0,none⟩) (some ⟨g2,0,none⟩) (some ⟨g3,0,none⟩) d.frames.length d.heap.length d.out.length d))/\VmB w' w.heap.size (some ⟨g,0,none⟩) (some ⟨g2,0,none⟩) (some ⟨g3,0,none⟩) d/\Below w.heap.size w w':=by
 unfold aQ;have hbA:Below w.heap.size w (((w.alloc (.cells #[.slice fa d.frames.length fc,.slice ha d.heap.length hcp,.int .i64 d.made,.slice oa d.out.length oc,.int .i64 d.status,.int .i64 d.trap,.int .i64 d.value.k,.int .i64 d.value.n,.string d.value.s,.int .i64 d.steps] 31)).alloc (.cells #[.slice none 0 0,.slice none 0 0,.int .i64 0,.slice none 0 0,.int .i64 0,.int .i64 0,.int .i64 0,.int .i64 0,.string ⟨#[]⟩,.int .i64 0] 48)).alloc (.cells #[.slice none 0 0,.slice none 0 0,.int .i64 0,.slice none 0 0,.int .i64 0,.int .i64 0,.int .i64 0,.int .i64 0,.string ⟨#[]⟩,.int .i64 0] 48)):=((gM.alloc nL _).alloc (by simp) _).alloc (by simp;omega) _;have hI0:=al (al (ah w #[.slice fa d.frames.length fc,.slice ha d.heap.length hcp,.int .i64 d.made,.slice oa d.out.length oc,.int .i64 d.status,.int .i64 d.trap,.int .i64 d.value.k,.int .i64 d.value.n,.string d.value.s,.int .i64 d.steps] 31) (.cells #[.slice none 0 0,.slice none 0 0,.int .i64 0,.slice none 0 0,.int .i64 0,.int .i64 0,.int .i64 0,.int .i64 0,.string ⟨#[]⟩,.int .i64 0] 48)) (.cells #[.slice none 0 0,.slice none 0 0,.int .i64 0,.slice none 0 0,.int .i64 0,.int .i64 0,.int .i64 0,.int .i64 0,.string ⟨#[]⟩,.int .i64 0] 48);have hR0:=al (ah (w.alloc (.cells #[.slice fa d.frames.length fc,.slice ha d.heap.length hcp,.int .i64 d.made,.slice oa d.out.length oc,.int .i64 d.status,.int .i64 d.trap,.int .i64 d.value.k,.int .i64 d.value.n,.string d.value.s,.int .i64 d.steps] 31)) #[.slice none 0 0,.slice none 0 0,.int .i64 0,.slice none 0 0,.int .i64 0,.int .i64 0,.int .i64 0,.int .i64 0,.string ⟨#[]⟩,.int .i64 0] 48) (.cells #[.slice none 0 0,.slice none 0 0,.int .i64 0,.slice none 0 0,.int .i64 0,.int .i64 0,.int .i64 0,.int .i64 0,.string ⟨#[]⟩,.int .i64 0] 48)
 have hO0:=ah ((w.alloc (.cells #[.slice fa d.frames.length fc,.slice ha d.heap.length hcp,.int .i64 d.made,.slice oa d.out.length oc,.int .i64 d.status,.int .i64 d.trap,.int .i64 d.value.k,.int .i64 d.value.n,.string d.value.s,.int .i64 d.steps] 31)).alloc (.cells #[.slice none 0 0,.slice none 0 0,.int .i64 0,.slice none 0 0,.int .i64 0,.int .i64 0,.int .i64 0,.int .i64 0,.string ⟨#[]⟩,.int .i64 0] 48)) #[.slice none 0 0,.slice none 0 0,.int .i64 0,.slice none 0 0,.int .i64 0,.int .i64 0,.int .i64 0,.int .i64 0,.string ⟨#[]⟩,.int .i64 0] 48;simp only[World.size_alloc] at hR0 hO0
 go_enter Tryz.func22,Tryz.ntmps22
 go_wp2_with fail
 refine (toFrameS_b fa d.frames fc _ hx.frames hx.locals hx.stack (hm.frs.mono hbA)).mono ?_;rintro e w1 ⟨rfl,hfr,hb1⟩;have hI1:=ab hI0 hb1;have hR1:=ab hR0 hb1;have hO1:=ab hO0 hb1;have hB1:=hbA.trans (hb1.mono hbA.size);simp only[World.size_alloc] at hfr
 clear hI0 hR0 hO0 hbA hb1;obtain⟨x1,hx1⟩:∃x1,x1=(w1.setCell ⟨w.heap.size+1+1,0,none⟩ (.slice (some ⟨w.heap.size+1+1+1,0,none⟩) d.frames.length d.frames.length)):=⟨_,rfl⟩;have hOx:x1.heap[w.heap.size+1+1]?=some (.cells #[.slice (some ⟨w.heap.size+1+1+1,0,none⟩) d.frames.length d.frames.length,.slice none 0 0,.int .i64 0,.slice none 0 0,.int .i64 0,.int .i64 0,.int .i64 0,.int .i64 0,.string ⟨#[]⟩,.int .i64 0] 48 (0,0)):=by rw[hx1];simpa using (ao (i:=0) hO1 (.slice (some ⟨w.heap.size+1+1+1,0,none⟩) d.frames.length d.frames.length))
 have hRx:x1.heap[w.heap.size+1]?=some (.cells #[.slice none 0 0,.slice none 0 0,.int .i64 0,.slice none 0 0,.int .i64 0,.int .i64 0,.int .i64 0,.int .i64 0,.string ⟨#[]⟩,.int .i64 0] 48 (0,0)):=by rw[hx1,Below.heap_setCell _ _ _ _ (by simp)];exact hR1
 have hIx:x1.heap[w.heap.size]?=some (.cells #[.slice fa d.frames.length fc,.slice ha d.heap.length hcp,.int .i64 d.made,.slice oa d.out.length oc,.int .i64 d.status,.int .i64 d.trap,.int .i64 d.value.k,.int .i64 d.value.n,.string d.value.s,.int .i64 d.steps] 31 (0,0)):=by rw[hx1,Below.heap_setCell _ _ _ _ (by simp;omega)];exact hI1
 have hBx:Below w.heap.size w x1:=by rw[hx1];exact (hB1).setCell (by simp;omega) _
 have hzx:w.heap.size+1+1+1<=x1.heap.size:=aq hOx;have hfrx:=hfr.above (w':=x1) (by rw[hx1];exact ((aL.refl _ _).setCell (by simp) _));have i1:=aa hI1;have o1:=aa hO1;have o2:=am hO1;go_wp2_with fail
 rw[<-hx1];clear hx1 i1 o1 o2 hI1 hR1 hO1 hB1 hfr;refine (toRecS_b ha d.heap hcp _ hx.heap hx.fields (hm.recs.mono hBx)).mono ?_;rintro e w2 ⟨rfl,hnew,hbn⟩;have hI2:=ab hIx hbn;have hR2:=ab hRx hbn;have hO2:=ab hOx hbn;have hB2:=hBx.trans (hbn.mono hBx.size);have hfr:=hfrx.mono hbn;have hrc:=hnew.low hzx;clear hIx hRx hOx hBx hbn hnew hfrx hzx;obtain⟨x2,hx2⟩:∃x2,x2=((w2.setCell ⟨w.heap.size+1+1,1,none⟩ (.slice (some ⟨x1.heap.size,0,none⟩) d.heap.length d.heap.length)).setCell ⟨w.heap.size+1+1,2,none⟩ (.int .i64 d.made)):=⟨_,rfl⟩;have hOx:x2.heap[w.heap.size+1+1]?=some (.cells #[.slice (some ⟨w.heap.size+1+1+1,0,none⟩) d.frames.length d.frames.length,.slice (some ⟨x1.heap.size,0,none⟩) d.heap.length d.heap.length,.int .i64 d.made,.slice none 0 0,.int .i64 0,.int .i64 0,.int .i64 0,.int .i64 0,.string ⟨#[]⟩,.int .i64 0] 48 (0,0)):=by rw[hx2];simpa using (ao (i:=2) (ao (i:=1) hO2 (.slice (some ⟨x1.heap.size,0,none⟩) d.heap.length d.heap.length)) (.int .i64 d.made))
 have hRx:x2.heap[w.heap.size+1]?=some (.cells #[.slice none 0 0,.slice none 0 0,.int .i64 0,.slice none 0 0,.int .i64 0,.int .i64 0,.int .i64 0,.int .i64 0,.string ⟨#[]⟩,.int .i64 0] 48 (0,0)):=by rw[hx2,Below.heap_setCell _ _ _ _ (by simp),Below.heap_setCell _ _ _ _ (by simp)];exact hR2
 have hIx:x2.heap[w.heap.size]?=some (.cells #[.slice fa d.frames.length fc,.slice ha d.heap.length hcp,.int .i64 d.made,.slice oa d.out.length oc,.int .i64 d.status,.int .i64 d.trap,.int .i64 d.value.k,.int .i64 d.value.n,.string d.value.s,.int .i64 d.steps] 31 (0,0)):=by rw[hx2,Below.heap_setCell _ _ _ _ (by simp;omega),Below.heap_setCell _ _ _ _ (by simp;omega)];exact hI2
 have hBx:Below w.heap.size w x2:=by rw[hx2];exact ((hB2).setCell (by simp;omega) _).setCell (by simp;omega) _
 have hzx:w.heap.size+1+1+1<=x2.heap.size:=aq hOx;have hfrx:=hfr.above (w':=x2) (by rw[hx2];exact (((aL.refl _ _).setCell (by simp) _).setCell (by simp) _));have hrcx:=hrc.above (w':=x2) (by rw[hx2];exact (((aL.refl _ _).setCell (by simp) _).setCell (by simp) _));have i1:=aa hI2;have o1:=aa hO2;have o2:=am hO2;go_wp2_with fail
 rw[<-hx2];clear hx2 i1 o1 o2 hI2 hR2 hO2 hB2 hfr hrc;refine (toStringS_made oa d.out oc _ hx.out (hm.out.mono hBx)).mono ?_;rintro e w3 ⟨rfl,hnew0,hbn,hblk3⟩;have hnew:OB w3 _ _ d.out:=⟨hnew0,_,rfl,Nat.le_refl _,hblk3⟩;clear hnew0 hblk3;have hI3:=ab hIx hbn;have hR3:=ab hRx hbn;have hO3:=ab hOx hbn;have hB3:=hBx.trans (hbn.mono hBx.size);have hfr:=hfrx.mono hbn;have hrc:=hrcx.mono hbn;have hot:=hnew.low hzx;clear hIx hRx hOx hBx hbn hnew hfrx hrcx hzx;obtain⟨x3,hx3⟩:∃x3,x3=(((w3.setCell ⟨w.heap.size+1+1,3,none⟩ (.slice (some ⟨x2.heap.size,0,none⟩) d.out.length d.out.length)).setCell ⟨w.heap.size+1+1,4,none⟩ (.int .i64 d.status)).setCell ⟨w.heap.size+1+1,5,none⟩ (.int .i64 d.trap)):=⟨_,rfl⟩;have hOx:x3.heap[w.heap.size+1+1]?=some (.cells #[.slice (some ⟨w.heap.size+1+1+1,0,none⟩) d.frames.length d.frames.length,.slice (some ⟨x1.heap.size,0,none⟩) d.heap.length d.heap.length,.int .i64 d.made,.slice (some ⟨x2.heap.size,0,none⟩) d.out.length d.out.length,.int .i64 d.status,.int .i64 d.trap,.int .i64 0,.int .i64 0,.string ⟨#[]⟩,.int .i64 0] 48 (0,0)):=by rw[hx3];simpa using (ao (i:=5) (ao (i:=4) (ao (i:=3) hO3 (.slice (some ⟨x2.heap.size,0,none⟩) d.out.length d.out.length)) (.int .i64 d.status)) (.int .i64 d.trap))
 have hRx:x3.heap[w.heap.size+1]?=some (.cells #[.slice none 0 0,.slice none 0 0,.int .i64 0,.slice none 0 0,.int .i64 0,.int .i64 0,.int .i64 0,.int .i64 0,.string ⟨#[]⟩,.int .i64 0] 48 (0,0)):=by rw[hx3,Below.heap_setCell _ _ _ _ (by simp),Below.heap_setCell _ _ _ _ (by simp),Below.heap_setCell _ _ _ _ (by simp)];exact hR3
 have hIx:x3.heap[w.heap.size]?=some (.cells #[.slice fa d.frames.length fc,.slice ha d.heap.length hcp,.int .i64 d.made,.slice oa d.out.length oc,.int .i64 d.status,.int .i64 d.trap,.int .i64 d.value.k,.int .i64 d.value.n,.string d.value.s,.int .i64 d.steps] 31 (0,0)):=by rw[hx3,Below.heap_setCell _ _ _ _ (by simp;omega),Below.heap_setCell _ _ _ _ (by simp;omega),Below.heap_setCell _ _ _ _ (by simp;omega)];exact hI3
 have hBx:Below w.heap.size w x3:=by rw[hx3];exact (((hB3).setCell (by simp;omega) _).setCell (by simp;omega) _).setCell (by simp;omega) _
 have hzx:w.heap.size+1+1+1<=x3.heap.size:=aq hOx;have hfrx:=hfr.above (w':=x3) (by rw[hx3];exact ((((aL.refl _ _).setCell (by simp) _).setCell (by simp) _).setCell (by simp) _));have hrcx:=hrc.above (w':=x3) (by rw[hx3];exact ((((aL.refl _ _).setCell (by simp) _).setCell (by simp) _).setCell (by simp) _));have hotx:=hot.above (w':=x3) (by rw[hx3];exact ((((aL.refl _ _).setCell (by simp) _).setCell (by simp) _).setCell (by simp) _));have i1:=aa hI3;have o1:=aa hO3;have o2:=am hO3;go_wp2_with fail
 rw[<-hx3];clear hx3 i1 o1 o2 hI3 hR3 hO3 hB3 hfr hrc hot;refine (cS _ _ _ _).mono ?_;rintro e w4 ⟨rfl,hbn⟩;have hI4:=ab hIx hbn;have hR4:=ab hRx hbn;have hO4:=ab hOx hbn;have hB4:=hBx.trans (hbn.mono hBx.size);have hfr:=hfrx.mono hbn;have hrc:=hrcx.mono hbn;have hot:=hotx.mono hbn;clear hIx hRx hOx hBx hbn  hfrx hrcx hotx hzx;have i1:=aa hI4;have o1:=aa hO4;have o2:=am hO4;have r1:=aa hR4;have r2:=am hR4;go_wp2;refine bodyPost_ret (v:=.agg #[.slice (some ⟨w.heap.size+1+1+1,0,none⟩) d.frames.length d.frames.length,.slice (some ⟨x1.heap.size,0,none⟩) d.heap.length d.heap.length,.int .i64 d.made,.slice (some ⟨x2.heap.size,0,none⟩) d.out.length d.out.length,.int .i64 d.status,.int .i64 d.trap,.int .i64 d.value.k,.int .i64 d.value.n,.string d.value.s,.int .i64 d.steps]) (by simp[results,Tryz.results22,go_sem,r1]) rfl ⟨w.heap.size+1+1+1,x1.heap.size,x2.heap.size,rfl,?_,?_⟩
 ·exact ((VmB.mk hfr hrc hot).above (((((((((((((((aL.refl _ _).setCell (by simp) _).setCell (by simp) _).setCell (by simp) _).setCell (by simp) _).setCell (by simp) _).setCell (by simp) _).setCell (by simp) _).setCell (by simp) _).setCell (by simp) _).setCell (by simp) _).setCell (by simp) _).setCell (by simp) _).setCell (by simp) _).setCell (by simp) _)).low (by omega)
 ·exact ((((((((((((((hB4.setCell (by simp;try omega) _).setCell (by simp;try omega) _).setCell (by simp;try omega) _).setCell (by simp;try omega) _).setCell (by simp;try omega) _).setCell (by simp;try omega) _).setCell (by simp;try omega) _).setCell (by simp;try omega) _).setCell (by simp;try omega) _).setCell (by simp;try omega) _).setCell (by simp;try omega) _).setCell (by simp;try omega) _).setCell (by simp;try omega) _).setCell (by simp;try omega) _)
end Go.Proofs.YtdlkbbgmjilccaaGreatDoor
