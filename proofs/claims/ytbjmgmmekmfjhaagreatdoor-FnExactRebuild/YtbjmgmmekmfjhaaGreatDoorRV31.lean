/- RV31 -/
import Derived.Test.YtbjmgmmekmfjhaaGreatDoorRV30
import Derived.Lib.LaidTab
import Derived.MakeChecks
import Derived.Stop.LaidErr
set_option maxHeartbeats 32000000
set_option maxRecDepth 100000
namespace Go.Proofs.YtbjmgmmekmfjhaaGreatDoor
open Go.RowKit
theorem gTab : Tryz.prog.globalNamed "math/bits.deBruijn64tab" = some 1 := by kernel_rfl
theorem gShp : Tryz.prog.globalNamed "loop.example/g00094/impl.shapes" = some 0 := by kernel_rfl
def dbZ:List Int:=dbT.map fun (k:Nat)=>(k:Int)
theorem eTab:(Rows.laid_math_bits_deBruijn64tab:DataW Unit)=Lib.tabData .u8 dbZ:=by kernel_rfl
theorem eShp:(Rows.laid_loop_example_g00094_impl_shapes:DataW Unit)=.agg (shp.map fun r=>.agg (r.map fun (z:Nat)=>.lit (.int .i64 (z:Int)))):=by kernel_rfl
theorem dbZ_at(i:Nat):dbZ.getD i 0=((dbT[i]?.getD 0:Nat):Int):=by
 unfold dbZ;rw[List.getD_eq_getElem?_getD,List.getElem?_map]
 cases dbT[i]?<;>rfl
theorem shp_len:shp.length=30:=by decide
theorem shp_row:∀r∈shp,r.length=5:=by decide
theorem cs261:Tryz.prog.cellsOf 311=1:=by kernel_rfl
theorem cs263:Tryz.prog.cellsOf 313=5:=by kernel_rfl
theorem cs264:Tryz.prog.cellsOf 314=150:=by kernel_rfl
theorem cells_of_rows{H:Type}{enc:TypeId×Value->H}{w:World}{base:Nat}{sp:Nat->Bool}{held:Bool}{fuel:Nat}{cs:List Value}{p:List MemPlace}
  (h:DataW.trod enc Tryz.prog w base sp held fuel 314 cs=some (.agg (shp.map fun r=>.agg (r.map fun (z:Nat)=>.lit (.int .i64 (z:Int)))),p)):∀op j,op<30->j<5->cs[op*5+j]?=some (.int .i64 (sh op j:Nat)):=by
 cases fuel with
 | zero=>simp[DataW.trod] at h
 | succ fuel=>
  simp only[DataW.trod,Tryz.underlying314,cs263,cs264] at h
  split at h
  ·obtain⟨xs,hm,hx⟩:=Option.map_eq_some_iff.1 h;have hxs:xs.map (·.1)=shp.map fun r=>(DataW.agg (r.map fun (z:Nat)=>.lit (.int .i64 (z:Int))):DataW H):=by
    have:=congrArg Prod.fst hx;simpa using this
   intro op j hop hj;obtain⟨b,hb,hf⟩:=Lib.mapM_at hm op op (by simp[hop]);have h2:(xs.map (·.1))[op]?=some b.1:=by simp[hb]
   rw[hxs,List.getElem?_map] at h2;obtain⟨r,hr⟩:∃r,shp[op]?=some r:=⟨_,List.getElem?_eq_getElem (by rw[shp_len];exact hop)⟩;rw[hr] at h2;have hb1:b.1=DataW.agg (r.map fun (z:Nat)=>.lit (.int .i64 (z:Int))):=by simpa using h2.symm
   have hrl:r.length=5:=shp_row _ (List.mem_of_getElem? hr);obtain⟨ys,n',_,rfl,_,hyl,hg⟩:=DataW.trod_struct Tryz.underlying313 hf;have hys:ys.map (·.1)=r.map fun (z:Nat)=>(DataW.lit (.int .i64 (z:Int)):DataW H):=by simpa using hb1
   have hsh:sh op j=r[j]'(by omega):=by
    unfold sh;rw[List.getD_eq_getElem?_getD,List.getD_eq_getElem?_getD,hr,Option.getD_some,List.getElem?_eq_getElem (by omega),Option.getD_some]
   have key:∀y,ys[j]?=some y->y.1=DataW.lit (.int .i64 ((sh op j:Nat):Int)):=fun y hy=>by
    have h3:(ys.map (·.1))[j]?=some y.1:=by simp[hy]
    rw[hys,List.getElem?_map,List.getElem?_eq_getElem (by omega)] at h3;rw[hsh];simpa using h3.symm
   have hyl5:ys.length=5:=hyl;have fin:∀y,ys[j]?=some y->DataW.trod enc Tryz.prog w base sp held n' 311 ((((cs.drop (op*5)).take 5).drop j).take 1)=some y->cs[op*5+j]?=some (.int .i64 (sh op j:Nat)):=fun y hy ht=>by
    obtain⟨z,hc,rfl,_⟩:=DataW.trod_int Tryz.underlying311 ht;have h4:=key _ hy;simp at h4
    have h5:=congrArg (·[0]?) hc;simp[List.getElem?_drop,hj] at h5
    rw[h5,h4]
   have yj:ys[j]?=some (ys[j]'(by omega)):=List.getElem?_eq_getElem (by omega);have hj5:j=0\/j=1\/j=2\/j=3\/j=4:=by omega
   rcases hj5 with rfl | rfl | rfl | rfl | rfl
   ·exact fin _ yj (by rw[<-yj];simpa[cs261] using hg 0 _ rfl)
   ·exact fin _ yj (by rw[<-yj];simpa[cs261] using hg 1 _ rfl)
   ·exact fin _ yj (by rw[<-yj];simpa[cs261] using hg 2 _ rfl)
   ·exact fin _ yj (by rw[<-yj];simpa[cs261] using hg 3 _ rfl)
   ·exact fin _ yj (by rw[<-yj];simpa[cs261] using hg 4 _ rfl)
  ·cases h
theorem of_laid {L : List (String × DataW Unit)} {W : World} (hL : L = [("math/bits.deBruijn64tab", Rows.laid_math_bits_deBruijn64tab), ("loop.example/g00094/impl.shapes", Rows.laid_loop_example_g00094_impl_shapes)]) (h : laidMetH Tryz.prog L W) : ShAt W ∧ DB W := by
 subst hL;rw[MakeChecks.laidMetH_plain _ _ _ (by kernel_rfl)] at h;rw[eTab,eShp] at h;have ht:=Lib.tabIs_of_head gTab (t:=390) (e:=5) (by kernel_rfl) Tryz.underlying390 Tryz.underlying5 (by kernel_rfl) (by kernel_rfl) h;refine⟨?_,fun i hi=>?_⟩
 ·obtain⟨ps,⟨g,t,cs,fuel,p,q,hg,ht,hvar,hd,_,_⟩,_⟩:=h.tail;obtain rfl:=Option.some.inj (gShp.symm.trans hg);obtain rfl:=Option.some.inj ((show (Tryz.prog.globals[0]?).map (·.type)=some 314 by kernel_rfl).symm.trans ht)
  intro op j h1 h2;have:=World.var?_cell hg hvar (op*5+j);rw[this];have:=cells_of_rows hd op j h1 h2;simpa using this
 ·have:=ht.cell gTab i hi;rw[this,dbZ_at]
theorem newMeet_any(lo:Nat)(w:World)(hl:lo<=w.heap.size) :
  Calls Tryz.prog 130 #[] w fun e w'=>e=.returned (.pointer (some ⟨w.heap.size+1,0,none⟩))/\MetAt w' lo (w.heap.size+1) w.heap.size (.slice none 0 0) []/\Below w.heap.size w w':=by
 have hmk:(Instr.makeMap 214 none).run Tryz.prog w=.ok (.map (some w.heap.size)) (w.alloc (.map #[] 0)):=rfl;go_enter Tryz.func130,Tryz.ntmps130
 go_wp2;go_ret
 have hM:((w.alloc (.map #[] 0)).alloc (.cells #[.map (some w.heap.size),.slice none 0 0] 216)).heap[w.heap.size]?=some (.map #[] 0):=by
  rw[Below.heap_alloc _ _ _ (by simp)];exact heap_alloc_new w _
 refine⟨rfl,⟨aA _ _ _ _ (by simp),hM,World.ownsRow_nil _ _ _ _,hl,by omega⟩,(b_r.alloc n_l _).alloc (by simp) _⟩
theorem worthIn_any(va na:Option Addr)(nv vc nn nc Hb Ub:Nat)(w:World) :
  Calls Tryz.prog 131 #[.slice va nv vc,.slice na nn nc,.func (.func 132) #[] #[.pointer (some ⟨Hb,0,none⟩),.pointer (some ⟨Ub,0,none⟩)]] w fun e w'=>e=.returned (.func (.func 183) #[] #[.pointer (some ⟨w.heap.size,0,none⟩),.pointer (some ⟨w.heap.size+1,0,none⟩),.pointer (some ⟨w.heap.size+2,0,none⟩)]) /\
   w'.heap[w.heap.size]?=some (.cells #[.slice va nv vc] 62 (0,0))/\w'.heap[w.heap.size+1]?=some (.cells #[.slice na nn nc] 50 (0,0))/\w'.heap[w.heap.size+2]?=some (.cells #[.func (.func 132) #[] #[.pointer (some ⟨Hb,0,none⟩),.pointer (some ⟨Ub,0,none⟩)]] 208 (0,0))/\Below w.heap.size w w':=by
 have hmf:∀(fn:Go.Fn) (first cap:Array Value) (w:World),(Instr.makeFunc fn first cap).run Tryz.prog w=.ok (.func fn first cap) w:=fun _ _ _ _=>rfl
 go_enter Tryz.func131,Tryz.ntmps131
 go_wp2;go_ret
 refine⟨rfl,?_,?_,?_,((b_r.alloc n_l _).alloc (by simp) _).alloc (by simp;omega) _⟩
 ·exact au (au (al _ _ _) _) _
 ·exact au (aA _ _ _ _ (by simp)) _
 ·exact aA _ _ _ _ (by simp)
def gh:Obj->Prop
 | .cells _ t _=>t≠216/\t≠3/\t≠125
 | _=>False
theorem gh.m{o:Obj}(h:gh o):eO o:=by
 cases o with
 | cells c t f=>exact⟨h.1,h.2.1⟩
 | _=>exact h.elim
structure Kr (lo:Nat)(w w':World):Prop where
 os:w'.os=w.os
 tape:w'.tape=w.tape
 output:w'.output=w.output
 size:w.heap.size<=w'.heap.size
 block:∀k o,w.heap[k]?=some o->(k<lo\/gh o)->w'.heap[k]?=some o
theorem Kr.refl(lo:Nat)(w:World):Kr lo w w:=⟨rfl,rfl,rfl,Nat.le_refl _,fun _ _ h _=>h⟩
theorem Kr.trans{lo:Nat}{a b c:World}(h:Kr lo a b)(k:Kr lo b c):Kr lo a c:=
 ⟨k.os.trans h.os,k.tape.trans h.tape,k.output.trans h.output,Nat.le_trans h.size k.size,fun i o hi ho=>k.block i o (h.block i o hi ho) ho⟩
theorem Kr.of{lo:Nat}{w w':World}(h:Below w.heap.size w w'):Kr lo w w':=
 ⟨h.os,h.tape,h.output,h.size,fun _ _ hi _=>ah hi h⟩
theorem Kr.km{lo:Nat}{w w':World}(h:Km lo w w'):Kr lo w w':=
 ⟨h.os,h.tape,h.output,h.size,fun k o hi ho=>h.block k o hi (ho.imp id gh.m)⟩
theorem Kr.kept{lo k:Nat}{a b:World}{c:Array Value}{t:TypeId}{fr:Nat×Nat}(h:Kr lo a b)(ho:a.heap[k]?=some (.cells c t fr))(ht:gh (.cells c t fr)):b.heap[k]?=some (.cells c t fr):=h.block k _ ho (.inr ht)
theorem Kr.below{lo B:Nat}{a b:World}(h:Kr lo a b)(hl:B<=lo)(hs:B<=a.heap.size):Below B a b:=
 ⟨h.os,h.tape,h.output,h.size,fun k hk=>by
  have:k<a.heap.size:=by omega
  rw[Array.getElem?_eq_getElem this];exact h.block k _ (Array.getElem?_eq_getElem this) (.inl (by omega))⟩
theorem Kr.grown{lo B n:Nat}{v:Value}{xs:List Value}{a w w':World}(h:Kr lo a w)(hown:w.ownsRow B 125 1 v n xs)(hg:w.grownBy w' v.ownBlock)(hlo:lo<=B):Kr lo a w':=by
 refine⟨hg.os.trans h.os,hg.tape.trans h.tape,hg.output.trans h.output,Nat.le_trans h.size hg.size,fun k o hk ho=>?_⟩;have hx:=h.block k o hk ho;have hlt:=ay hx;rw[hg.block k hlt ?_]
 ·exact hx
 ·intro hkv;rcases hown.2 with ⟨rfl,-⟩ | ⟨b,cap,cur,rfl,hb,hh,-⟩
  ·simp[Value.ownBlock] at hkv
  ·simp[Value.ownBlock] at hkv
   subst hkv;rw[hh] at hx
   cases hx;rcases ho with ho | ho
   ·omega
   ·exact absurd rfl ho.2.2
section
variable {w0 w w':World} {lo Vb Nb Pb Hb Ub nb:Nat} {va na ha:Option Addr} {nv vc nn nc hl hc:Nat}
theorem WIn.kr(q:WIn w0 w lo Vb Nb Pb Hb Ub nb va na ha nv vc nn nc hl hc)(k:Kr lo w w'):WIn w0 w' lo Vb Nb Pb Hb Ub nb va na ha nv vc nn nc hl hc:=
 ⟨q.b0.trans (k.below q.lo q.b0.size),q.lo,k.kept q.v ⟨by decide,by decide,by decide⟩,k.kept q.n ⟨by decide,by decide,by decide⟩,k.kept q.p ⟨by decide,by decide,by decide⟩,k.kept q.h ⟨by decide,by decide,by decide⟩,k.kept q.u ⟨by decide,by decide,by decide⟩⟩
end
theorem BlkV.keep{w w':World}{g:Nat}{vs:List Vl}(h:BlkV w g vs)(hk:∀c,w.heap[g]?=some (.cells c 80 (0,0))->w'.heap[g]?=some (.cells c 80 (0,0))):BlkV w' g vs:=by
 obtain⟨c,h1,h2,h3⟩:=h;exact⟨c,hk _ h1,h2,h3⟩
theorem MetAt.grew{w w':World}{lo nb mb B e size n:Nat}{mv q:Value}{ms:List Int}{xs:List Value}(h:MetAt w lo nb mb mv ms)(hown:w.ownsRow B e size q n xs)(he:e≠216/\e≠3)(hg:w.grownBy w' q.ownBlock):MetAt w' lo nb mb mv ms:=by
 have keep:∀(b:Nat) (o:Obj),¬eO o->(∀c f,o=.cells c e f->False)->w.heap[b]?=some o->w'.heap[b]?=some o:=fun b o _ ho hb=>by
  rw[hg.block b (ay hb) ?_]
  ·exact hb
  ·intro e1;rcases hown.2 with ⟨rfl,-⟩ | ⟨z,cap,cur,rfl,-,hh,-⟩
   ·simp[Value.ownBlock] at e1
   ·simp[Value.ownBlock] at e1
    subst e1;rw[hh] at hb
    cases hb;exact ho _ _ rfl
 refine⟨keep _ _ (fun h=>h.1 rfl) (fun c f e1=>by cases e1;exact he.1 rfl) h.num,keep _ _ (fun h=>h) (fun c f e1=>by cases e1) h.map,⟨h.met.1,?_⟩,h.lom,h.mbn⟩;rcases h.met.2 with q | ⟨b,cap,cur,e1,hb,hh,r⟩
 ·exact .inl q
 ·exact .inr ⟨b,cap,cur,e1,hb,keep _ _ (fun h=>h.2 rfl) (fun c f e1=>by cases e1;exact he.2 rfl) hh,r⟩
def rSl (b:Nat)(r:List Vl):Value:=.slice (some ⟨b,0,none⟩) r.length r.length
structure RowO (w:World)(B:Nat)(q:Value)(bs:List Nat)(rs:List (List Vl)):Prop where
 len:bs.length=rs.length
 own:w.ownsRow B 125 1 q rs.length (List.zipWith rSl bs rs)
 one:∀i j (hi:i<bs.length) (hj:j<bs.length),bs[i]=bs[j]->i=j
 low:∀b∈bs,B<=b
 blk:∀j (h:j<bs.length) (h2:j<rs.length),BlkV w bs[j] rs[j]
theorem RowO.lt{w:World}{B:Nat}{q:Value}{bs:List Nat}{rs:List (List Vl)}(h:RowO w B q bs rs):∀b∈bs,b<w.heap.size:=fun b hb=>by
 obtain⟨j,hj,rfl⟩:=List.getElem_of_mem hb;obtain⟨c,h1,-⟩:=h.blk j hj (by rw[<-h.len];exact hj);exact ay h1
theorem RowO.km{w w':World}{lo B:Nat}{q:Value}{bs:List Nat}{rs:List (List Vl)}(h:RowO w B q bs rs)(k:Km lo w w'):RowO w' B q bs rs:=by
 refine⟨h.len,⟨h.own.1,?_⟩,h.one,h.low,fun j hj hj2=>(h.blk j hj hj2).keep (fun c hc=>k.kept hc ⟨by decide,by decide⟩)⟩;rcases h.own.2 with q | ⟨g,cap,cur,e,hg,hh,r⟩
 ·exact .inl q
 ·exact .inr ⟨g,cap,cur,e,hg,k.kept hh ⟨by decide,by decide⟩,r⟩
theorem RowO.mono{w w':World}{B:Nat}{q:Value}{bs:List Nat}{rs:List (List Vl)}(h:RowO w B q bs rs)(k:Below w.heap.size w w'):RowO w' B q bs rs:=h.km (lo:=0) (Km.of k)
theorem RowO.next{w w':World}{B b:Nat}{q q':Value}{bs:List Nat}{rs:List (List Vl)}{r:List Vl}(h:RowO w B q bs rs)(hB:B<=b)(hb:b∉bs)(hv:BlkV w b r)
  (hown:w'.ownsRow B 125 1 q' (rs.length+1) (List.zipWith rSl bs rs++[rSl b r])) (hg:w.grownBy w' q.ownBlock):RowO w' B q' (bs++[b]) (rs++[r]):=by
 have K:∀(g:Nat) (c:Array Value),w.heap[g]?=some (.cells c 80 (0,0))->w'.heap[g]?=some (.cells c 80 (0,0)):=fun g c hc=>by
  rw[hg.block g (ay hc) ?_]
  ·exact hc
  ·intro e;rcases h.own.2 with ⟨rfl,-⟩ | ⟨x,cap,cur,rfl,-,hh,-⟩
   ·simp[Value.ownBlock] at e
   ·simp[Value.ownBlock] at e
    subst e;rw[hh] at hc
    cases hc
 have e1:List.zipWith rSl (bs++[b]) (rs++[r])=List.zipWith rSl bs rs++[rSl b r]:=by
  rw[List.zipWith_append h.len];rfl
 refine⟨by simp[h.len],by rw[e1];simpa using hown,fun i j hi hj e=>?_,fun x hx=>?_,fun j hj hj2=>?_⟩
 ·simp only[List.length_append,List.length_singleton] at hi hj
  by_cases hi':i<bs.length<;>by_cases hj':j<bs.length
  ·rw[List.getElem_append_left hi',List.getElem_append_left hj'] at e;exact h.one i j hi' hj' e
  ·have:j=bs.length:=by omega
   subst this;rw[List.getElem_append_left hi',List.getElem_append_right n_l] at e;simp at e
   exact absurd (e▸g_m hi') hb
  ·have:i=bs.length:=by omega
   subst this;rw[List.getElem_append_left hj',List.getElem_append_right n_l] at e;simp at e
   exact absurd (e.symm▸g_m hj') hb
  ·omega
 ·rcases List.mem_append.1 hx with hx | hx
  ·exact h.low x hx
  ·rw[List.mem_singleton] at hx;subst hx;exact hB
 ·simp only[List.length_append,List.length_singleton] at hj hj2
  by_cases hj':j<bs.length
  ·rw[List.getElem_append_left hj',List.getElem_append_left (by rw[<-h.len];exact hj')];exact (h.blk j hj' (by rw[<-h.len];exact hj')).keep (K _)
  ·have e:j=bs.length:=by omega
   have e2:j=rs.length:=by rw[<-h.len];exact e
   have e3:(bs++[b])[j]'(by simp;omega)=b:=by
    rw[List.getElem_append_right (by omega)];simp
   have e4:(rs++[r])[j]'(by simp;omega)=r:=by
    rw[List.getElem_append_right (by omega)];simp
   rw[e3,e4];exact hv.keep (K _)
def blkOf:Option Value->Nat
 | some (.slice (some a) _ _)=>a.block
 | _=>0
theorem RowR.row{w:World}{g lo B:Nat}{rs:List (List Vl)}{cur:Array Value}(h:RowR w g lo rs cur)(hg:B<=g)(hl:B<=lo)(hn:rs.length<=1048576):∃bs,RowO w B (.slice (some ⟨g,0,none⟩) rs.length rs.length) bs rs:=by
 refine⟨(List.range rs.length).map (fun j=>blkOf cur[j]?),by simp,⟨by simp,.inr ⟨g,rs.length,cur,rfl,hg,h.blk,Nat.le_refl _,by unfold maxLen;omega,by rw[h.size];omega,?_⟩⟩,fun i j hi hj e=>?_,fun b hb=>?_,fun j hj hj2=>?_⟩
 ·refine List.ext_getElem? fun j=>?_
  by_cases hj:j<rs.length
  ·obtain⟨b,h1,-,-⟩:=h.each j hj;rw[List.getElem?_take,if_pos (by omega),Array.getElem?_toList,h1];rw[List.getElem?_zipWith,List.getElem?_map,List.getElem?_range hj,List.getElem?_eq_getElem hj];simp[h1,blkOf,rSl]
  ·rw[List.getElem?_take,if_neg (by omega),List.getElem?_eq_none (by simp;omega)]
 ·simp only[List.length_map,List.length_range] at hi hj
  obtain⟨b,h1,-,-⟩:=h.each i hi;obtain⟨b2,h2,-,-⟩:=h.each j hj;have e1:blkOf cur[i]?=blkOf cur[j]?:=by simpa using e
  rw[h1,h2] at e1;have e2:b=b2:=e1;subst e2;exact h.ap.one i j b _ _ _ _ hi hj h1 h2
 ·obtain⟨j,hj,rfl⟩:=List.mem_map.1 hb;obtain⟨b,h1,h2,-⟩:=h.each j (List.mem_range.1 hj);rw[h1];show B<=b
  omega
 ·obtain⟨b,h1,h2,h3⟩:=h.each j hj2;have e:((List.range rs.length).map (fun j=>blkOf cur[j]?))[j]'hj=b:=by simp[h1,blkOf]
  rw[e];exact h3
theorem RowV.blk{vals:List Vl}{nums:List Int}{hl:Nat}{ms:List Int}{l:List Sr}{w:World}{g:Nat}{c:Array Value}(hb:w.heap[g]?=some (.cells c 80 (0,0)))(h:RowV vals nums hl ms l l.length c)(hz:c.size=l.length*3):BlkV w g (bu vals nums hl ms l):=by
 refine⟨c,hb,by rw[bN];exact hz,fun j hj=>?_⟩;have hj':j<l.length:=by rw[bN] at hj;exact hj
 rw[eK vals nums hl l ms j hj'];exact h j hj' hj'
def SFast:Prop:=∀(a1 a2 oa ea:Option Addr) (c1 c2 oc ec:Nat) (ts:List ByteArray) (fs:List Fn) (D:aR) (w:World),dm ts fs->a8 D->bc w 0 a1 ts->FnsAt w 0 a2 fs->br w 0 oa ea D ->
 Calls Tryz.prog 49 #[.agg #[.slice a1 ts.length c1,.slice a2 fs.length c2],.agg (aK oa ea oc ec D)] w fun e w'=>e=.returned (.bool (pB (eP ts fs D)))/\Below w.heap.size w w'
theorem eqIntS_any(a a2:Option Addr)(bs:List Int)(cap cap2:Nat)(w:World)(hn:bs.length<=1048576)(hm:a9 w 0 a bs)(hm2:a9 w 0 a2 bs) :
  Calls Tryz.prog 22 #[.slice a bs.length cap,.slice a2 bs.length cap2] w fun e w'=>e=.returned (.bool true)/\Below w.heap.size w w':=by
 go_enter Tryz.func22,Tryz.ntmps22
 go_wp2;go_loopw [5] (fun i wr=>∃(k:Nat),k<=bs.length/\i=.int .i64 k/\Below w.heap.size w wr) (fun i _=>bs.length-(intOf i).toNat)
 case atStart=>exact⟨0,by omega,rfl,Below.refl _ _⟩
 case round=>
  obtain⟨k,hk,rfl,hb⟩:=hrel;by_cases hlt:k<bs.length
  ·obtain⟨b,off,rfl,-,c1⟩:=hm k hlt;obtain⟨b2,off2,rfl,-,c2⟩:=hm2 k hlt;have c1':=cell_later hb c1;have c2':=cell_later hb c2;clear c1 c2;go_wp2;go_quiet (fail)
   go_wp2;go_roundw
   case rel=>exact⟨k+1,by omega,by go_num,aF hb _⟩
   case measure=>simp[intOf];omega
  ·go_wp2;go_ret
   exact⟨rfl,hb⟩
end Go.Proofs.YtbjmgmmekmfjhaaGreatDoor
namespace Go.Proofs.YtbjmgmmekmfjhaaGreatDoor
open Go.RowKit Go.Deep Go.ChangeShapes Go.WideShapes Go.Joins
section
variable {H:Type} {enc:TypeId×Value->H} {P:Program} {w:World} {base:Nat} {spare:Nat->Bool} {held:Bool}
theorem read_vals{t e:TypeId}{f0 f1 f2:Field}(ht:P.underlying t=some (.slice e))(he:P.underlying e=some (.struct #[f0,f1,f2]))
  (ce:P.cellsOf e=3) (o0:f0.offset=0) (o1:f1.offset=1) (o2:f2.offset=2) (c0:P.cellsOf f0.type=1) (c1:P.cellsOf f1.type=1) (c2:P.cellsOf f2.type=1)
  (k0:P.underlying f0.type=some (.int .i64)) (k1:P.underlying f1.type=some (.int .i64)) (k2:P.underlying f2.type=some .string)
  {fuel:Nat}{v:Value}{y:DataW H×List MemPlace}(h:DataW.trod enc P w base spare held fuel t [v]=some y) :
  ∃a cap vs,v=.slice a vs.length cap/\cW vs/\aQ w 0 a vs:=by
 rcases open_slice ht h with ⟨hcs,-⟩ | ⟨a,len,cap,m,n,D,Pl,hcs,-,hl,hm,hmm,-,hx⟩
 ·simp at hcs
  exact⟨none,0,[],by simpa using hcs,⟨by simp,by simp⟩,fun i hi=>by simp at hi⟩
 ·simp at hcs
  have hlm:len<=m:=by rw[hmm];split<;>omega
  have inh:Inhabited Vl:=⟨⟨0,0,⟨#[]⟩⟩⟩;have hplain:∀i,i<m->∃b off,a=⟨b,off,none⟩:=fun i hi=>by
   obtain⟨cs',h1,-⟩:=hx 0 (by omega);rw[ce] at h1;obtain⟨_,hlen,hcell⟩:=World.cells?_some h1;have e0:=hcell 0 (by omega);rw[add_add] at e0;match cs',hlen with
   | [v0,v1,v2],_=>exact ch (by simpa using e0)
  obtain⟨q,hq⟩:=choose_lt (α:=Vl) (n:=m) (p:=fun i z=>z.s.size<=maxLen/\∃b off,a=⟨b,off,none⟩/\w.cell? ⟨b,off+i*3,none⟩=some (.int .i64 z.k) /\
    w.cell? ⟨b,off+i*3+1,none⟩=some (.int .i64 z.n)/\w.cell? ⟨b,off+i*3+2,none⟩=some (.string z.s)) (fun i hi=>by
   obtain⟨cs',h1,h2⟩:=hx i hi;rw[ce] at h1;obtain⟨_,hlen,hcell⟩:=World.cells?_some h1;obtain⟨y0,y1,y2,n',-,-,t0,t1,t2⟩:=trod_struct3 he h2;match cs',hlen with
   | [v0,v1,v2],_=>
    simp[o0,o1,o2,c0,c1,c2] at t0 t1 t2
    have e0:=hcell 0 (by omega);have e1:=hcell 1 (by omega);have e2:=hcell 2 (by omega);rw[add_add] at e0 e1 e2;simp at e0 e1 e2
    obtain⟨z0,x0,-,-⟩:=DataW.trod_int k0 t0;obtain⟨z1,x1,-,-⟩:=DataW.trod_int k1 t1;obtain⟨z2,x2,-,hz2⟩:=DataW.trod_string k2 t2;simp at x0 x1 x2
    rw[x0] at e0;rw[x1] at e1;rw[x2] at e2;obtain⟨b,off,rfl⟩:=hplain i hi;rw[Go.WideShapes.add_plain] at e0;rw[Go.WideShapes.add_plain,<-Nat.add_assoc] at e1 e2;exact⟨⟨z0,z1,z2⟩,hz2,b,off,rfl,e0,e1,e2⟩)
  refine⟨some a,cap,(List.range len).map q,by simpa using hcs,⟨by simp;omega,?_⟩,?_⟩
  ·intro f hf;obtain⟨i,hi,rfl⟩:=List.mem_map.1 hf;exact (hq i (by have:=List.mem_range.1 hi;omega)).1
  ·intro i hi;have hi':i<len:=by simpa using hi
   obtain⟨-,b,off,rfl,r0,r1,r2⟩:=hq i (by omega);exact⟨b,off,rfl,Nat.zero_le _,by simpa using r0,by simpa using r1,by simpa using r2⟩
theorem read_recs{t e tv:TypeId}{f0:Field}(ht:P.underlying t=some (.slice e))(he:P.underlying e=some (.struct #[f0]))(ce:P.cellsOf e=1)(o0:f0.offset=0)(c0:P.cellsOf f0.type=1)(k0:f0.type=tv)
  (HV:∀(fuel:Nat) (v:Value) (y:DataW H×List MemPlace),DataW.trod enc P w base spare held fuel tv [v]=some y->∃a cap vs,v=.slice a vs.length cap/\cW vs/\aQ w 0 a vs)
  {fuel:Nat}{v:Value}{y:DataW H×List MemPlace}(h:DataW.trod enc P w base spare held fuel t [v]=some y) :
  ∃a cap rs,v=.slice a rs.length cap/\rs.length<=maxLen/\(∀r∈rs,cW r)/\bT w 0 a rs:=by
 rcases open_slice ht h with ⟨hcs,-⟩ | ⟨a,len,cap,m,n,D,Pl,hcs,-,hl,hm,hmm,-,hx⟩
 ·simp at hcs
  exact⟨none,0,[],by simpa using hcs,by simp,by simp,fun i hi=>by simp at hi⟩
 ·simp at hcs
  have hlm:len<=m:=by rw[hmm];split<;>omega
  have hplain:∀i,i<m->∃b off,a=⟨b,off,none⟩:=fun i hi=>by
   obtain⟨cs',h1,-⟩:=hx 0 (by omega);rw[ce] at h1;obtain⟨_,hlen,hcell⟩:=World.cells?_some h1;have e0:=hcell 0 (by omega);rw[add_add] at e0;match cs',hlen with
   | [v0],_=>exact ch (by simpa using e0)
  obtain⟨q,hq⟩:=choose_lt (α:=List Vl) (n:=m) (p:=fun i z=>cW z/\∃b off ca cc,a=⟨b,off,none⟩/\w.cell? ⟨b,off+i,none⟩=some (.slice ca z.length cc)/\aQ w 0 ca z) (fun i hi=>by
   obtain⟨cs',h1,h2⟩:=hx i hi;rw[ce] at h1;obtain⟨_,hlen,hcell⟩:=World.cells?_some h1;obtain⟨y0,n',-,-,t0⟩:=trod_struct1 he h2;match cs',hlen with
   | [v0],_=>
    simp[o0,c0] at t0
    have e0:=hcell 0 (by omega);rw[add_add] at e0;simp at e0
    rw[k0] at t0;obtain⟨ca,cc,xs,x0,hxs,hvs⟩:=HV _ _ _ t0;rw[x0] at e0;obtain⟨b,off,rfl⟩:=hplain i hi;rw[Go.WideShapes.add_plain] at e0;exact⟨xs,hxs,b,off,ca,cc,rfl,e0,hvs⟩)
  refine⟨some a,cap,(List.range len).map q,by simpa using hcs,by simp;omega,?_,?_⟩
  ·intro f hf;obtain⟨i,hi,rfl⟩:=List.mem_map.1 hf;exact (hq i (by have:=List.mem_range.1 hi;omega)).1
  ·intro i hi;have hi':i<len:=by simpa using hi
   obtain⟨-,b,off,ca,cc,rfl,r0,r1⟩:=hq i (by omega);exact⟨b,off,ca,cc,rfl,Nat.zero_le _,by simpa using r0,by simpa using r1⟩
end
theorem cells3:Tryz.prog.cellsOf 3=1:=by kernel_rfl
theorem cells9:Tryz.prog.cellsOf 9=1:=by kernel_rfl
theorem cells75:Tryz.prog.cellsOf 75=3:=by kernel_rfl
section
variable {H:Type} {enc:TypeId×Value->H} {P:Program} {w:World} {base:Nat} {spare:Nat->Bool} {held:Bool}
theorem cells54:Tryz.prog.cellsOf 54=1:=by kernel_rfl
theorem read_values{H:Type}{enc:TypeId×Value->H}{w:World}{base:Nat}{sp:Nat->Bool}{held:Bool}(fuel:Nat)(v:Value)(y:DataW H×List MemPlace)(h:DataW.trod enc Tryz.prog w base sp held fuel 54 [v]=some y) :
  ∃a cap vs,v=.slice a vs.length cap/\cW vs/\aQ w 0 a vs:=
 read_vals Tryz.underlying54 Tryz.underlying75 cells75 rfl rfl rfl cells3 cells3 cells9 Tryz.underlying3 Tryz.underlying3 Tryz.underlying9 h
end
end Go.Proofs.YtbjmgmmekmfjhaaGreatDoor
