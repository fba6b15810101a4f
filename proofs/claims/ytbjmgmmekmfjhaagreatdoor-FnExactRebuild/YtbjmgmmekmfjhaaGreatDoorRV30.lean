/- RV30 -/
import Derived.Test.YtbjmgmmekmfjhaaGreatDoorRV28
import Derived.Test.YtbjmgmmekmfjhaaGreatDoorRV29
set_option maxHeartbeats 32000000
set_option maxRecDepth 100000
namespace Go.Proofs.YtbjmgmmekmfjhaaGreatDoor
open Go.RowKit
def FrIs (vals:List Vl)(nums:List Int)(hl:Nat)(w:World)(lo':Nat)(cur:Array Value)(j:Nat)(ms:List Int)(f:EF):Prop:=
 ∃g1 g2,lo'<=g1/\lo'<=g2/\cur[j*4]?=some (.int .i64 f.fn)/\cur[j*4+1]?=some (.int .i64 f.pc)/\cur[j*4+2]?=some (.slice (some ⟨g1,0,none⟩) f.locals.length f.locals.length)/\cur[j*4+3]?=some (.slice (some ⟨g2,0,none⟩) f.stack.length f.stack.length) /\
  (∃c:Array Value,w.heap[g1]?=some (.cells c 80 (0,0))/\RowV vals nums hl ms f.locals f.locals.length c/\c.size=f.locals.length*3)/\(∃c:Array Value,w.heap[g2]?=some (.cells c 80 (0,0))/\RowV vals nums hl (metL ms f.locals) f.stack f.stack.length c/\c.size=f.stack.length*3)
theorem FrIs.kept{vals:List Vl}{nums:List Int}{hl:Nat}{w w':World}{lo':Nat}{cur cur':Array Value}{j:Nat}{ms:List Int}{f:EF}(h:FrIs vals nums hl w lo' cur j ms f)(hw:∀g c,lo'<=g->w.heap[g]?=some (.cells c 80 (0,0))->w'.heap[g]?=some (.cells c 80 (0,0)))(hc:∀i,i<4->cur'[j*4+i]?=cur[j*4+i]?):FrIs vals nums hl w' lo' cur' j ms f:=by
 obtain⟨g1,g2,l1,l2,a0,a1,a2,a3,⟨c1,b1,r1⟩,⟨c2,b2,r2⟩⟩:=h;exact⟨g1,g2,l1,l2,(hc 0 (by omega)).trans a0,(hc 1 (by omega)).trans a1,(hc 2 (by omega)).trans a2,(hc 3 (by omega)).trans a3,⟨c1,hw _ _ l1 b1,r1⟩,⟨c2,hw _ _ l2 b2,r2⟩⟩
structure FrFits (nv nn:Nat)(f:EF):Prop where
 n1:f.locals.length<=1048576
 n2:f.stack.length<=1048576
 s1:∀s∈f.locals,et nv nn s
 s2:∀s∈f.stack,et nv nn s
def FewF (ms:List Int)(l:List EF):Prop:=∀k (h:k<l.length),gB (metFs ms (l.take k)) l[k].locals/\gB (metL (metFs ms (l.take k)) l[k].locals) l[k].stack
theorem eachF_any{w0 w:World}{lo Vb Nb Pb Hb Ub Wb nb mb:Nat}{va na ha:Option Addr}{vc nc hl hc:Nat}(vals:List Vl)(nums:List Int)(a:Option Addr)(l:List EF)(cap:Nat)(mv:Value)(ms:List Int)(q:WIn w0 w lo Vb Nb Pb Hb Ub nb va na ha vals.length vc nums.length nc hl hc)
  (hW:w.heap[Wb]?=some (.cells #[.func (.func 183) #[] #[.pointer (some ⟨Vb,0,none⟩),.pointer (some ⟨Nb,0,none⟩),.pointer (some ⟨Pb,0,none⟩)]] 206 (0,0)))
  (hN:MetAt w lo nb mb mv ms)(hms:FewF ms l)(hhl:hl<=1048576)(hv:aE vals)(hnl:nums.length<=1048576)(hva:aQ w0 0 va vals)(hna:a9 w0 0 na nums)(hn:l.length<=1048576)(hs:∀f∈l,FrFits vals.length nums.length f)(hm:cg w0 0 a l) :
  Calls Tryz.prog 134 #[.slice a l.length cap,.func (.func 135) #[] #[.pointer (some ⟨Wb,0,none⟩)]] w fun e w'=>∃cur,e=.returned (.slice (some ⟨w.heap.size,0,none⟩) l.length l.length)/\w'.heap[w.heap.size]?=some (.cells cur 136 (0,0))/\(∀j (h:j<l.length),FrIs vals nums hl w' (w.heap.size+1) cur j (metFs ms (l.take j)) l[j])/\cur.size=l.length*4/\ApC w'.heap.size (l.length*4) cur/\Km lo w w'/\∃mv',MetAt w' lo nb mb mv' (metFs ms l):=by
 obtain⟨i0,hi,hz0,hz1,hz2⟩:=info_parts info136;go_enter Tryz.func134,Tryz.ntmps134
 go_wp2_with (first | (at_make;refine wpList_make_full _ rfl _ _ 58 rfl w.heap.size 136 i0 (.agg #[.int .i64 0,.int .i64 0,.slice none 0 0,.slice none 0 0]) 4 Tryz.underlying58 hi hz0 hz1 _ _ _ _ l.length rfl rfl rfl rfl (by rw[hz2];omega) (by unfold maxLen;omega) n_l ?_;intro w1 hown hgrow))
 obtain⟨cur0,hblk,hsz⟩:=aY hown;have hb0:Below w.heap.size w w1:=b_r.grown hgrow n_l (by intro k hk;cases hk);clear hown hgrow hi hz0 hz1 hz2;go_loopw [13] (fun i wr=>∃(k:Nat) (cur:Array Value) (mv':Value),k<=l.length/\i=.int .i64 k/\wr.heap[w.heap.size]?=some (.cells cur 136 (0,0))/\cur.size=l.length*4/\(∀j (h:j<l.length),j<k->FrIs vals nums hl wr (w.heap.size+1) cur j (metFs ms (l.take j)) l[j])/\ApC wr.heap.size (k*4) cur/\Km lo w wr/\MetAt wr lo nb mb mv' (metFs ms (l.take k))) (fun i _=>l.length-(intOf i).toNat)
 case atStart=>exact⟨0,cur0,mv,by omega,rfl,hblk,hsz,fun j _ h=>by omega,by rw[Nat.zero_mul];exact ApC.zero _ _,Km.of hb0,by simpa[metFs] using hN.mono hb0⟩
 case round=>
  obtain⟨k,cur,mv',hk,rfl,hblk,hsz,hdone,hAp,hKm,hMt⟩:=hrel;have HAp:Hid (ApC wr.heap.size (k*4) cur):=hAp;clear hAp;by_cases hlt:k<l.length
  ·have qr:=q.km hKm;have hWr:=hKm.kept hW ⟨by decide,by decide⟩;obtain⟨b,off,la,lc,sa,sc,rfl,-,c0,c1,c2,c3,m1,m2⟩:=hm k hlt;have c0':=cell_later qr.b0 c0;have c1':=cell_later qr.b0 c1;have c2':=cell_later qr.b0 c2;have c3':=cell_later qr.b0 c3;have hbA:Below wr.heap.size wr (wr.alloc (.cells #[.int .i64 l[k].fn,.int .i64 l[k].pc,.slice la l[k].locals.length lc,.slice sa l[k].stack.length sc] 114)):=b_r.alloc n_l _;have hblkA:=au hblk (.cells #[.int .i64 l[k].fn,.int .i64 l[k].pc,.slice la l[k].locals.length lc,.slice sa l[k].stack.length sc] 114);have qA:=qr.km (Km.of hbA);have hWA:=ah hWr hbA;have hMA:=hMt.mono hbA;have hKA:=hKm.trans (Km.of hbA);have hck:=hs l[k] (g_m hlt);have hmk:=hms k hlt;have hwr:w.heap.size<wr.heap.size:=ay hblk;have HD:Hid (∀j (h:j<l.length),j<k->FrIs vals nums hl wr (w.heap.size+1) cur j (metFs ms (l.take j)) l[j]):=hdone;clear hdone hMt hKm qr c0 c1 c2 c3 hWr;go_wp2_with fail
   refine (frameW_any vals nums l[k] la sa lc sc mv' (metFs ms (l.take k)) qA hWA hMA hmk.1 hmk.2 hhl hv hnl hva hna hck.n1 hck.n2 hck.s1 hck.s2 m1 m2).mono ?_;rintro e w2 ⟨g1,g2,rfl,hO⟩;unfold frAgg;have hblk2:=hO.km.kept hblkA ⟨by decide,by decide⟩;have hfz:=aq hblk2;have hcl:w2.cell? ⟨w.heap.size,k*4,none⟩=some cur[k*4]:=by rw[ae hblk2];simp
   have hcl2:w2.cell? ⟨w.heap.size,k*4+1,none⟩=some cur[k*4+1]:=by rw[ae hblk2];simp
   have hcl3:w2.cell? ⟨w.heap.size,k*4+2,none⟩=some cur[k*4+2]:=by rw[ae hblk2];simp
   have hcl4:w2.cell? ⟨w.heap.size,k*4+3,none⟩=some cur[k*4+3]:=by rw[ae hblk2];simp
   obtain⟨mv2,hM2⟩:=hO.met;have HK:Hid (Km lo w w2/\MetAt w2 lo nb mb mv2 (metFs ms (l.take (k+1)))):=⟨hKA.trans hO.km,by rw[metFs_more ms l k hlt];exact hM2⟩;have HO:Hid (FrOut vals nums hl (metFs ms (l.take k)) l[k] lo nb mb (wr.alloc (.cells #[.int .i64 l[k].fn,.int .i64 l[k].pc,.slice la l[k].locals.length lc,.slice sa l[k].stack.length sc] 114)) w2 g1 g2):=hO;have HB:Hid (Below wr.heap.size wr (wr.alloc (.cells #[.int .i64 l[k].fn,.int .i64 l[k].pc,.slice la l[k].locals.length lc,.slice sa l[k].stack.length sc] 114))):=hbA;have hkz:k*4+3<cur.size:=by omega
   clear hO hM2 hKA hMA qA hblkA c0' c1' c2' c3' hck hmk hWA hbA m1 m2;go_wp2;go_roundw
   case rel=>
    have o0:∀c:Array Value,eO (.cells c 136 (0,0)):=fun c=>⟨by decide,by decide⟩
    refine⟨k+1,(((cur.setIfInBounds (k*4) (.int .i64 l[k].fn)).setIfInBounds (k*4+1) (.int .i64 l[k].pc)).setIfInBounds (k*4+2) (.slice (some ⟨g1,0,none⟩) l[k].locals.length l[k].locals.length)).setIfInBounds (k*4+3) (.slice (some ⟨g2,0,none⟩) l[k].stack.length l[k].stack.length),mv2,by omega,by go_num,ak (ak (ak (ak hblk2 _) _) _) _,by simpa using hsz,?_,?_,(((HK.out.1.setNew n_l _).setNew n_l _).setNew n_l _).setNew n_l _,
     (((HK.out.2.set hblk2 (o0 _) _).set (ak hblk2 _) (o0 _) _).set (ak (ak hblk2 _) _) (o0 _) _).set (ak (ak (ak hblk2 _) _) _) (o0 _) _⟩
    have put:∀(g:Nat) (c:Array Value) (x0 x1 x2 x3:Value),w.heap.size+1<=g->w2.heap[g]?=some (.cells c 80 (0,0))->((((w2.setCell ⟨w.heap.size,k*4,none⟩ x0).setCell ⟨w.heap.size,k*4+1,none⟩ x1).setCell ⟨w.heap.size,k*4+2,none⟩ x2).setCell ⟨w.heap.size,k*4+3,none⟩ x3).heap[g]?=some (.cells c 80 (0,0)):=fun g c x0 x1 x2 x3 hg ho=>by
     have hne:g≠w.heap.size:=by omega
     rw[Below.heap_setCell _ _ _ _ hne,Below.heap_setCell _ _ _ _ hne,Below.heap_setCell _ _ _ _ hne,Below.heap_setCell _ _ _ _ hne];exact ho
    rotate_left
    ·have hl1:=HO.out.lo1;have hlt2:=HO.out.lt;have hw3:=HB.out.size;obtain⟨x2,y2,-⟩:=HO.out.b2;have h5:=ay y2;have:=((((HAp.out.nextI (x:=l[k].fn)).nextI (x:=l[k].pc)).next (g:=g1) (n:=l[k].locals.length) (c:=l[k].locals.length) (by omega)).next (g:=g2) (n:=l[k].stack.length) (c:=l[k].stack.length) (by omega)).mono (show g2+1<=w2.heap.size by omega)
     rw[show (k+1)*4=k*4+1+1+1+1 by omega]
     simpa using this
    intro j hj hjk;by_cases e:j=k
    ·subst e;have hl1:=HO.out.lo1;have hl2:=HO.out.lo2;have hw3:=HB.out.size;obtain⟨x1,y1,z1⟩:=HO.out.b1;obtain⟨x2,y2,z2⟩:=HO.out.b2;refine⟨g1,g2,by omega,by omega,?_,?_,?_,?_,⟨x1,put _ _ _ _ _ _ (by omega) y1,z1⟩,⟨x2,put _ _ _ _ _ _ (by omega) y2,z2⟩⟩
     ·rw[aj _ (by omega),aj _ (by omega),aj _ (by omega)];exact aC _ (by omega)
     ·rw[aj _ (by omega),aj _ (by omega)];exact aC _ (by simp;omega)
     ·rw[aj _ (by omega)];exact aC _ (by simp;omega)
     ·exact aC _ (by simp;omega)
    ·refine (HD.out j hj (by omega)).kept (fun g c hg ho=>put _ _ _ _ _ _ hg (HO.out.km.kept (ah ho HB.out) ⟨by decide,by decide⟩)) (fun i hi=>?_);rw[aj _ (by omega),aj _ (by omega),aj _ (by omega),aj _ (by omega)]
   case measure=>simp[intOf];omega
  ·have hkl:k=l.length:=by omega
   have HD:Hid ((∀j (h:j<l.length),FrIs vals nums hl wr (w.heap.size+1) cur j (metFs ms (l.take j)) l[j])/\(cur.size=l.length*4/\ApC wr.heap.size (l.length*4) cur)/\Km lo w wr/\∃mv',MetAt wr lo nb mb mv' (metFs ms l)):=⟨fun j hj=>hdone j hj (by omega),⟨hsz,hkl▸HAp.out⟩,hKm,mv',by rw[hkl,List.take_length] at hMt;exact hMt⟩;clear hdone hKm hMt;go_wp2;go_ret
   exact⟨cur,rfl,hblk,HD.out.1,HD.out.2.1.1,HD.out.2.1.2,HD.out.2.2.1,HD.out.2.2.2⟩
structure SrOk (nv nn nr:Nat)(s:Sr):Prop where
 fits:et nv nn s
 kind:s.k=1\/s.k=2\/s.k=3\/s.k=4
 rc4:s.k=4->0<=s.n/\s.n<(nr:Int)
theorem SrcP.ok{nf:Nat}{D:aR}{nr nv nn:Nat}{s:Sr}(h:SrcP nf D nr s)(hsm:bQ s)(hv:(nv:Int)=D.vals)(hn:(nn:Int)=D.nums):SrOk nv nn nr s:=by
 rcases h with ⟨h1,-,-⟩ | ⟨-,⟨h1,h2⟩ | ⟨h1,h2⟩ | ⟨h1,h2⟩⟩
 ·exact⟨⟨fun q=>by omega,fun q=>by omega,hsm⟩,.inl h1,fun q=>by omega⟩
 ·exact⟨⟨fun _=>by rw[hv];exact h2,fun q=>by omega,hsm⟩,.inr (.inl h1),fun q=>by omega⟩
 ·exact⟨⟨fun q=>by omega,fun _=>by rw[hn];exact h2,hsm⟩,.inr (.inr (.inl h1)),fun q=>by omega⟩
 ·exact⟨⟨fun q=>by omega,fun q=>by omega,hsm⟩,.inr (.inr (.inr h1)),fun _=>h2⟩
structure dG (nv nn:Nat)(x:Ex):Prop where
 fn:x.frames.length<=4
 rn:x.recs.length<=60
 fl:∀f∈x.frames,f.locals.length<=1048576/\f.stack.length<=1048576
 f1:∀f∈x.frames,∀s∈f.locals,SrOk nv nn x.recs.length s
 f2:∀f∈x.frames,∀s∈f.stack,SrOk nv nn x.recs.length s
 rl:∀r∈x.recs,r.fields.length<=6
 rs:∀r∈x.recs,∀s∈r.fields,SrOk nv nn x.recs.length s
theorem fy.fits{fs:List Fn}{D:aR}{x:Ex}{nv nn:Nat}(h:fy fs D x)(hsm:cC x)(hv:(nv:Int)=D.vals)(hn:(nn:Int)=D.nums):dG nv nn x:=by
 obtain⟨-,-,hfl,-,hf,hrn,hr⟩:=h;have src:∀(l:List Sr),eG fs.length D x.recs.length l->(∀s∈l,bQ s)->∀s∈l,SrOk nv nn x.recs.length s:=fun l hl hs s hm=>by
  obtain⟨i,hi,rfl⟩:=List.getElem_of_mem hm;exact (hl i hi).ok (hs _ hm) hv hn
 refine⟨hfl.2,hrn,fun f hm=>⟨(hsm.1.2 f hm).1.1,(hsm.1.2 f hm).2.1⟩,fun f hm=>?_,fun f hm=>?_,fun r hm=>?_,fun r hm=>?_⟩
 ·obtain⟨i,hi,rfl⟩:=List.getElem_of_mem hm;exact src _ (hf i hi).2.1 (hsm.1.2 _ hm).1.2
 ·obtain⟨i,hi,rfl⟩:=List.getElem_of_mem hm;exact src _ (hf i hi).2.2 (hsm.1.2 _ hm).2.2
 ·obtain⟨i,hi,rfl⟩:=List.getElem_of_mem hm;exact (hr i hi).1
 ·obtain⟨i,hi,rfl⟩:=List.getElem_of_mem hm;exact src _ (hr i hi).2 (hsm.2.2 _ hm).2
section
variable {nv nn:Nat} {x:Ex}
theorem dG.fi(h:dG nv nn x):∀f∈x.frames,cE x.recs.length f.locals/\cE x.recs.length f.stack:=fun f hf=>⟨fun s hs hk=>(h.f1 f hf s hs).rc4 hk,fun s hs hk=>(h.f2 f hf s hs).rc4 hk⟩
theorem dG.ri(h:dG nv nn x):∀r∈x.recs,cE x.recs.length r.fields:=fun r hr s hs hk=>(h.rs r hr s hs).rc4 hk
theorem dG.met(h:dG nv nn x)(k:Nat):MetOk x.recs.length (metFs [] (x.frames.take k)):=MetOk.frames _ (MetOk.nil _) (fun f hf=>h.fi f (List.mem_of_mem_take hf))
theorem dG.few(h:dG nv nn x):FewF [] x.frames:=fun k hk=>by
 have h1:=h.met k;have h2:=h.fi x.frames[k] (g_m hk);refine⟨fun j _=>?_,fun j _=>?_⟩
 ·have:=(h1.srcs (x.frames[k].locals.take j) (fun s hs=>h2.1 s (List.mem_of_mem_take hs))).few;have:=h.rn;omega
 ·have:=((h1.srcs x.frames[k].locals h2.1).srcs (x.frames[k].stack.take j) (fun s hs=>h2.2 s (List.mem_of_mem_take hs))).few;have:=h.rn;omega
end
def cL (ts:List ByteArray)(fs:List Fn)(D:aR)(x:Int)(vals:List Vl)(nums:List Int)(hs:List (List Vl)):Prop:=
 eP ts fs D/\Reg x D.exits.length/\gH fs.length D vals nums hs.length/\ic fs.length hs
theorem cL.fits{ts:List ByteArray}{fs:List Fn}{D:aR}{k:Nat}{vals:List Vl}{nums:List Int}{hs:List (List Vl)}(h:cL ts fs D k vals nums hs)(hd:a8 D)(hk:k<D.exits.length):dG vals.length nums.length D.exits[k]:=
 (h.1.2.2.2.2 k hk).fits (hd.2.2 _ (g_m hk)) h.2.2.1.1 h.2.2.1.2.1
theorem Kd.fresh{lo B e size n:Nat}{v:Value}{xs:List Value}{a w w':World}(h:Kd lo a w)(hown:w.ownsRow B e size v n xs)(hg:w.grownBy w' v.ownBlock)(hB:a.heap.size<=B):Kd lo a w':=by
 refine⟨hg.os.trans h.os,hg.tape.trans h.tape,hg.output.trans h.output,Nat.le_trans h.size hg.size,fun k o hk ho=>?_⟩;have hx:=h.block k o hk ho;rw[hg.block k (ay hx) (fun e1=>by have:=(hown.lt k e1.symm).1;have:=ay hk;omega)];exact hx
theorem flat_app:∀a b:List Vl,flat (a++b)=flat a++flat b
 | [],_=>rfl
 | v :: a,b=>by simp[flat,flat_app a b]
theorem fW{w:World}{B n:Nat}{v:Value}{vs:List Vl}(h:w.ownsRow B 80 3 v n (flat vs))(hn:n=vs.length):∃a cap,v=.slice a vs.length cap/\aQ w B a vs:=by
 rcases h.2 with ⟨e,h0⟩ | ⟨g,cap,cur,e,hg,hh,-,-,-,htk⟩
 ·exact⟨none,0,by rw[e,<-hn,h0],fun j hj=>by omega⟩
 ·refine⟨_,cap,by rw[e,hn],fun j hj=>?_⟩;obtain⟨f1,f2,f3⟩:=gv vs j hj;have K:∀i v',(flat vs)[i]?=some v'->i<n*3->cur[i]?=some v':=fun i v' hi hl=>by
   rw[<-htk,List.getElem?_take,if_pos hl,Array.getElem?_toList] at hi;exact hi
  exact⟨g,0,rfl,hg,by rw[ae hh,Nat.zero_add];exact K _ _ f1 (by omega),by rw[ae hh,Nat.zero_add];exact K _ _ f2 (by omega),by rw[ae hh,Nat.zero_add];exact K _ _ f3 (by omega)⟩
theorem fC{x:Ex}{fa ra va na:Option Addr}{fc rc vc nc:Nat}{vals:List Vl}{nums:List Int}{first:Nat}{w0 w:World}{K lo:Nat}{av ov:Value}{ms:List Int}(l:List Sr)(a:Option Addr)(cap:Nat)(hM:MkAt x fa ra va na fc rc vc nc vals nums first w K av ov ms)(hlo:lo<=K)(hb0:Below w0.heap.size w0 w)(hl0:w0.heap.size<=lo)(hml:∀k≤l.length,(metL ms (l.take k)).length<=1048576)(hfl:first<=1048576)(hrl:x.recs.length<=1048576)(hnv:vals.length<=1048576)(hnn:nums.length<=1048576)
  (hva:aQ w0 0 va vals)(hna:a9 w0 0 na nums)(hn:l.length<=1048576)(hs:∀s∈l,SrOk vals.length nums.length x.recs.length s)(hm:bD w0 0 a l) :
  Calls Tryz.prog 121 #[.pointer (some ⟨K,0,none⟩),.slice a l.length cap] w fun e w'=>∃v',e=.returned v'/\w'.ownsRow w.heap.size 80 3 v' l.length (flat (bu vals nums first ms l))/\Kd lo w w'/\∃av' ov',MkAt x fa ra va na fc rc vc nc vals nums first w' K av' ov' (metL ms l):=by
 obtain⟨i0,hi,hz0,hz1,hz2⟩:=info_parts info80;have hbE:Below w.heap.size w (w.alloc (.cells #[] 80)):=b_r.alloc n_l _;go_enter Tryz.func121,Tryz.ntmps121
 go_wp2;go_loopw [5,6] (fun o i wr=>∃(k:Nat) (av' ov':Value),k<=l.length/\i=.int .i64 k/\wr.ownsRow w.heap.size 80 3 o k (flat (bu vals nums first ms (l.take k)))/\Hid (Kd lo w wr)/\Hid (MkAt x fa ra va na fc rc vc nc vals nums first wr K av' ov' (metL ms (l.take k)))) (fun _ i _=>l.length-(intOf i).toNat)
 case atStart=>exact⟨0,av,ov,by omega,rfl,by simpa[bu,flat] using World.ownsRow_made (base:=w.heap.size) (e:=80) (size:=3) w #[] 0 n_l (by unfold maxLen;omega) rfl,Kd.of hbE,hidE (by simpa[metL] using hM.mono hbE)⟩
 case round=>
  obtain⟨k,av',ov',hk,rfl,hown,HK,HM⟩:=hrel;by_cases hlt:k<l.length
  ·have hb1:Below w0.heap.size w0 wr:=hb0.trans (HK.out.below hl0 hb0.size);obtain⟨b,off,rfl,-,c0,c1,c2,c3,c4⟩:=(hm.mono hb1) k hlt;have hck:=hs l[k] (g_m hlt);have hmk:=hml k hk;have hsr:w.heap.size<=wr.heap.size:=HK.out.size;go_wp2_with fail
   refine (sValue_any (lo:=lo) l[k] HM.out hlo hmk hfl hrl hnv hnn (hva.mono hb1) (hna.mono hb1) hck.fits hck.kind hck.rc4).mono ?_;rintro e w2 ⟨rfl,hK2,av2,ov2,hM2⟩;have hown2:w2.ownsRow w.heap.size 80 3 _ k (flat (bu vals nums first ms (l.take k))):=⟨hown.1,by
    rcases hown.2 with q | ⟨g,cp,cu,e,hg,hh,r⟩
    ·exact .inl q
    ·exact .inr ⟨g,cp,cu,e,hg,hK2.kept hh ⟨by decide,by decide⟩,r⟩⟩
   have hs2:wr.heap.size<=w2.heap.size:=hK2.size;have HK2:Hid (Kd lo w w2/\MkAt x fa ra va na fc rc vc nc vals nums first w2 K av2 ov2 (metL ms (l.take (k+1)))):=⟨HK.out.trans hK2,by rw[metL_more ms l k hlt];exact hM2⟩
   obtain⟨v,hv⟩:∃v,v=bJ vals nums first (metL ms (l.take k)) l[k]:=⟨_,rfl⟩
   rw[<-hv];have HV:Hid (v=bJ vals nums first (metL ms (l.take k)) l[k]):=hv
   unfold cG;clear hv hK2 hM2 hck hmk c0 c1 c2 c3 c4 HM HK hown;go_wp2_with (at_builtin;refine wpList_append_lies _ rfl _ _ 62 rfl w.heap.size 80 i0 (.agg #[.int .i64 0,.int .i64 0,.string ByteArray.empty]) 3 32 Tryz.underlying62 hi hz0 hz1 hz2 rfl (by decide) _ _ _ rfl (World.ownsRow.alloc hown2 _) ⟨w2.heap.size,0,none⟩ 1 1 [.int .i64 v.k,.int .i64 v.n,.string v.s] rfl rfl (World.news_of_block (cs:=#[.int .i64 v.k,.int .i64 v.n,.string v.s]) (t:=80) (fr:=(0,0)) (heap_alloc_new w2 _)) (by simp[Value.oneCell']) (by decide) (by unfold maxLen;omega) (by omega) (by simp;omega) _ rfl ?_;intro g3 cap3 w3 hown3 hgrow3 hat3 hlt3)
   have hbe:Below w2.heap.size w2 (w2.alloc (.cells #[.int .i64 v.k,.int .i64 v.n,.string v.s] 80)):=b_r.alloc n_l _;have HT:Hid (w3.ownsRow w.heap.size 80 3 (.slice (some ⟨g3,0,none⟩) (k+1) cap3) (k+1) (flat (bu vals nums first ms (l.take (k+1))))/\Kd lo w w3/\MkAt x fa ra va na fc rc vc nc vals nums first w3 K av2 ov2 (metL ms (l.take (k+1)))):=by
    refine⟨?_,(HK2.out.1.trans (Kd.of hbe)).fresh (World.ownsRow.alloc hown2 _) hgrow3 n_l,(HK2.out.2.mono hbe).grew (World.ownsRow.alloc hown2 _) ⟨by decide,by decide⟩ hgrow3⟩;rw[worthL_more vals nums first ms l k hlt,flat_app,<-HV.out]
    exact hown3
   clear hown2 hgrow3 hown3 hat3 hlt3;go_roundw
   case rel=>exact⟨k+1,av2,ov2,by omega,by go_num,HT.out.1,HT.out.2.1,HT.out.2.2⟩
   case measure=>simp[intOf];omega
  ·have hkl:k=l.length:=by omega
   rw[hkl,List.take_length] at hown;have HM':=HM.out;rw[hkl,List.take_length] at HM';have HF:Hid (wr.ownsRow w.heap.size 80 3 _ l.length (flat (bu vals nums first ms l))/\MkAt x fa ra va na fc rc vc nc vals nums first wr K av' ov' (metL ms l)):=⟨hown,HM'⟩
   clear HM' HM hown;go_wp2;go_ret
   exact⟨_,rfl,HF.out.1,HK.out,av',ov',HF.out.2⟩
def RecO (w:World)(B:Nat)(xs:List Value)(rs:List (List Vl)):Prop:=xs.length=rs.length/\∀j (_:j<rs.length),∃v,xs[j]?=some v/\w.ownsRow B 80 3 v rs[j].length (flat rs[j])
theorem cd{w w':World}{B e size n:Nat}{v:Value}{xs:List Value}(h:w.ownsRow B e size v n xs)(hk:∀g c,v.ownBlock=some g->w.heap[g]?=some (.cells c e (0,0))->w'.heap[g]?=some (.cells c e (0,0))):w'.ownsRow B e size v n xs:=by
 refine⟨h.1,?_⟩;rcases h.2 with q | ⟨g,cap,cur,e,hg,hh,r⟩
 ·exact .inl q
 ·exact .inr ⟨g,cap,cur,e,hg,hk g cur (by rw[e];rfl) hh,r⟩
theorem c6{w w':World}{B e size n B2 e2 size2 n2:Nat}{v v2:Value}{xs xs2:List Value}(h:w.ownsRow B e size v n xs)(h2:w.ownsRow B2 e2 size2 v2 n2 xs2)(he:e≠e2)(hg:w.grownBy w' v2.ownBlock):w'.ownsRow B e size v n xs:=
 cd h fun g c _ hh=>by
  rw[hg.block g (ay hh) ?_]
  ·exact hh
  ·intro e1;rcases h2.2 with ⟨rfl,-⟩ | ⟨z,cap,cur,rfl,-,hz,-⟩
   ·simp[Value.ownBlock] at e1
   ·simp[Value.ownBlock] at e1
    subst e1;rw[hz] at hh
    cases hh;exact he rfl
theorem own_later{w w':World}{B e size n B2 e2 size2 n2:Nat}{v v2:Value}{xs xs2:List Value}(h:w.ownsRow B e size v n xs)(h2:w.ownsRow B2 e2 size2 v2 n2 xs2)(hl:∀g,v.ownBlock=some g->g<B2)(hg:w.grownBy w' v2.ownBlock):w'.ownsRow B e size v n xs:=
 cd h fun g c hv hh=>by
  rw[hg.block g (ay hh) (fun e1=>by have:=(h2.lt g e1.symm).1;have:=hl g hv;omega)];exact hh
theorem RecO.kept{w w':World}{B:Nat}{xs:List Value}{rs:List (List Vl)}(h:RecO w B xs rs)(hk:∀v n (l:List Vl),w.ownsRow B 80 3 v n (flat l)->w'.ownsRow B 80 3 v n (flat l)):RecO w' B xs rs:=⟨h.1,fun j hj=>by
 obtain⟨v,h1,h2⟩:=h.2 j hj;exact⟨v,h1,hk _ _ _ h2⟩⟩
theorem RecO.next{w:World}{B:Nat}{xs:List Value}{rs:List (List Vl)}{v:Value}{r:List Vl}(h:RecO w B xs rs)(hv:w.ownsRow B 80 3 v r.length (flat r)):RecO w B (xs++[v]) (rs++[r]):=by
 refine⟨by simp[h.1],fun j hj=>?_⟩;by_cases hj':j<rs.length
 ·obtain⟨v',h1,h2⟩:=h.2 j hj';exact⟨v',by rw[List.getElem?_append_left (by rw[h.1];exact hj')];exact h1,by rw[List.getElem_append_left hj'];exact h2⟩
 ·have e:j=rs.length:=by simp at hj;omega
  subst e;refine⟨v,by rw[List.getElem?_append_right (by rw[h.1];exact Nat.le_refl _),h.1];simp,?_⟩;rw[List.getElem_append_right n_l];simpa using hv
theorem b9{w:World}{B B' e size n:Nat}{v:Value}{xs:List Value}(h:w.ownsRow B e size v n xs)(hl:B'<=B):w.ownsRow B' e size v n xs:=by
 refine⟨h.1,?_⟩;rcases h.2 with q | ⟨g,cap,cur,e,hg,r⟩
 ·exact .inl q
 ·exact .inr ⟨g,cap,cur,e,by omega,r⟩
theorem RecO.low{w:World}{B B':Nat}{xs:List Value}{rs:List (List Vl)}(h:RecO w B xs rs)(hl:B'<=B):RecO w B' xs rs:=⟨h.1,fun j hj=>by
 obtain⟨v,h1,h2⟩:=h.2 j hj;exact⟨v,h1,b9 h2 hl⟩⟩
theorem RecO.at{w:World}{B:Nat}{q:Value}{xs:List Value}{rs:List (List Vl)}(h:RecO w B xs rs)(ho:w.ownsRow B 125 1 q rs.length xs):∃a cap,q=.slice a rs.length cap/\bT w B a rs:=by
 rcases ho.2 with ⟨e,h0⟩ | ⟨g,cap,cur,e,hg,hh,-,-,-,htk⟩
 ·exact⟨none,0,by rw[e,h0],fun j hj=>by omega⟩
 ·refine⟨_,cap,e,fun j hj=>?_⟩;obtain⟨v,h1,h2⟩:=h.2 j hj;obtain⟨a,c,rfl,hv⟩:=fW h2 rfl;refine⟨g,0,a,c,rfl,hg,?_,hv⟩;rw[<-htk,List.getElem?_take,if_pos (by omega),Array.getElem?_toList] at h1;rw[ae hh,Nat.zero_add];exact h1
theorem sCopyHeap_any(a:Option Addr)(rs:List (List Vl))(cap:Nat)(w:World)(hn:rs.length<=1048576)(hc:∀r∈rs,aE r)(hm:RB w 0 a rs) :
  Calls Tryz.prog 122 #[.slice a rs.length cap] w fun e w'=>∃q xs,e=.returned q/\w'.ownsRow w.heap.size 125 1 q rs.length xs/\RecO w' w.heap.size xs rs/\Below w.heap.size w w':=by
 obtain⟨i0,hi,hz0,hz1,hz2⟩:=info_parts info125;obtain⟨i8,hi8,hy0,hy1,hy2⟩:=info_parts info80;obtain⟨R,curR,rfl,-,hR,hRz,hRe⟩:=hm;have hbE:Below w.heap.size w (w.alloc (.cells #[] 125)):=b_r.alloc n_l _;go_enter Tryz.func122,Tryz.ntmps122
 go_wp2;go_loopw [3,4] (fun o i wr=>∃(k:Nat) (xs:List Value),k<=rs.length/\i=.int .i64 k/\wr.ownsRow w.heap.size 125 1 o k xs/\Hid (RecO wr w.heap.size xs (rs.take k))/\Hid (Below w.heap.size w wr)) (fun _ i _=>rs.length-(intOf i).toNat)
 case atStart=>exact⟨0,[],by omega,rfl,World.ownsRow_made (base:=w.heap.size) (e:=125) (size:=1) w #[] 0 n_l (by unfold maxLen;omega) rfl,⟨by simp,fun j hj=>by simp at hj⟩,hbE⟩
 case round=>
  obtain⟨k,xs,hk,rfl,hown,HO,HB⟩:=hrel;by_cases hlt:k<rs.length
  ·obtain⟨g,hg1,hVB⟩:=hRe k hlt;have hRr:=ah hR HB.out;have hVr:=(hVB.1).mono HB.out;have rc:=ae hRr;have hck:=hc rs[k] (g_m hlt);have hb1:Below wr.heap.size wr (wr.alloc (.cells #[] 80)):=b_r.alloc n_l _;have hrow1:(wr.alloc (.cells #[] 80)).ownsRow wr.heap.size 80 3 (.slice (some ⟨wr.heap.size,0,none⟩) 0 0) 0 []:=World.ownsRow_made wr #[] 0 n_l (by unfold maxLen;omega) rfl;have hsr:w.heap.size<=wr.heap.size:=HB.out.size;have rk:(wr.alloc (.cells #[] 80)).cell? ⟨R,k,none⟩=some (.slice (some ⟨g,0,none⟩) rs[k].length rs[k].length):=cell_later hb1 (by rw[rc];exact hg1);have hl3:=fU rs[k];have hck1:=hck.1;clear rc hRr;by_cases h0:rs[k].length=0
   ·have hnil:rs[k]=[]:=List.eq_nil_of_length_eq_zero h0;rw[h0] at rk;have HV2:Hid ((wr.alloc (.cells #[] 80)).ownsRow wr.heap.size 80 3 (Value.slice (some ⟨wr.heap.size,0,none⟩) 0 0) rs[k].length (flat rs[k])):=by rw[hnil];exact hrow1
    have hown2:(wr.alloc (.cells #[] 80)).ownsRow w.heap.size 125 1 _ k xs:=aX hown hb1;have HO2:Hid (RecO (wr.alloc (.cells #[] 80)) w.heap.size xs (rs.take k)):=HO.out.kept (fun v n l h=>aX h hb1);have HB2:Hid (Below w.heap.size w (wr.alloc (.cells #[] 80))):=HB.out.trans (hb1.mono HB.out.size);have hs2:w.heap.size<=(wr.alloc (.cells #[] 80)).heap.size:=HB2.out.size;clear hrow1;go_wp2_with (at_builtin;refine wpList_append_lies _ rfl _ _ 59 rfl w.heap.size 125 i0 (.agg #[.slice none 0 0]) 1 24 Tryz.underlying59 hi hz0 hz1 hz2 rfl (by decide) _ _ _ rfl (World.ownsRow.alloc hown2 _) ⟨wr.heap.size+1,0,none⟩ 1 1 [Value.slice (some ⟨wr.heap.size,0,none⟩) 0 0] rfl rfl (World.news_of_block (cs:=#[Value.slice (some ⟨wr.heap.size,0,none⟩) 0 0]) (t:=125) (fr:=(0,0)) (aA _ _ _ _ (by simp))) (by simp[Value.oneCell']) (by decide) (by unfold maxLen;omega) (by omega) (by simp;omega) _ rfl ?_;intro g3 cap3 w3 hown3 hgrow3 hat3 hlt3)
    have hbe:Below (wr.alloc (.cells #[] 80)).heap.size (wr.alloc (.cells #[] 80)) ((wr.alloc (.cells #[] 80)).alloc (.cells #[Value.slice (some ⟨wr.heap.size,0,none⟩) 0 0] 125)):=b_r.alloc n_l _;have HT:Hid (w3.ownsRow w.heap.size 125 1 (.slice (some ⟨g3,0,none⟩) (k+1) cap3) (k+1) (xs++[Value.slice (some ⟨wr.heap.size,0,none⟩) 0 0])/\RecO w3 w.heap.size (xs++[Value.slice (some ⟨wr.heap.size,0,none⟩) 0 0]) (rs.take (k+1))/\Below w.heap.size w w3):=by
     refine⟨hown3,?_,(HB2.out.trans (hbe.mono HB2.out.size)).grown hgrow3 (by simp;omega) (fun g hg=>(hown2.lt g hg).1)⟩;rw[List.take_succ_eq_append_getElem hlt];refine RecO.kept (w:=(wr.alloc (.cells #[] 80))) ?_ (fun v n l h=>c6 (aX h hbe) (World.ownsRow.alloc hown2 _) (by decide) hgrow3);exact HO2.out.next (b9 HV2.out (by omega))
    clear hown2 hown3 hgrow3 hat3 hlt3;go_roundw
    case rel=>exact⟨k+1,_,by omega,by go_num,HT.out.1,HT.out.2.1,HT.out.2.2⟩
    case measure=>simp[intOf];omega
   ·go_wp2_with (first | (at_builtin;refine wpList_append_lies _ rfl _ _ 62 rfl wr.heap.size 80 i8 (.agg #[.int .i64 0,.int .i64 0,.string ByteArray.empty]) 3 32 Tryz.underlying62 hi8 hy0 hy1 hy2 rfl (by decide) _ _ _ rfl hrow1 ⟨g,0,none⟩ rs[k].length rs[k].length (flat rs[k]) rfl hl3 ((hVr.mono hb1).src) (flat_one rs[k]) (by omega) (by unfold maxLen;omega) (by omega) (by simp) _ rfl ?_;intro g2 cap2 w2 hrow2 hgrow2 hat2 hlt2;rw[Nat.zero_add] at hrow2 ⊢;have HV2:Hid (w2.ownsRow wr.heap.size 80 3 (Value.slice (some ⟨g2,0,none⟩) rs[k].length cap2) rs[k].length (flat rs[k])):=hrow2;have hown2:w2.ownsRow w.heap.size 125 1 _ k xs:=c6 (aX hown hb1) hrow1 (by decide) hgrow2;have HO2:Hid (RecO w2 w.heap.size xs (rs.take k)):=HO.out.kept (fun v n l h=>own_later (aX h hb1) hrow1 (fun g hg=>(h.lt g hg).2) hgrow2);have HB2:Hid (Below w.heap.size w w2):=(HB.out.trans (hb1.mono HB.out.size)).grown hgrow2 (by simp;omega) (fun g hg=>by have:=(hrow1.lt g hg).1;omega);have hs2:w.heap.size<=w2.heap.size:=HB2.out.size) | (at_builtin;refine wpList_append_lies _ rfl _ _ 59 rfl w.heap.size 125 i0 (.agg #[.slice none 0 0]) 1 24 Tryz.underlying59 hi hz0 hz1 hz2 rfl (by decide) _ _ _ rfl (World.ownsRow.alloc hown2 _) ⟨w2.heap.size,0,none⟩ 1 1 [Value.slice (some ⟨g2,0,none⟩) rs[k].length cap2] rfl rfl (World.news_of_block (cs:=#[Value.slice (some ⟨g2,0,none⟩) rs[k].length cap2]) (t:=125) (fr:=(0,0)) (heap_alloc_new w2 _)) (by simp[Value.oneCell']) (by decide) (by unfold maxLen;omega) (by omega) (by simp;omega) _ rfl ?_;intro g3 cap3 w3 hown3 hgrow3 hat3 hlt3))
    have hbe:Below w2.heap.size w2 (w2.alloc (.cells #[Value.slice (some ⟨g2,0,none⟩) rs[k].length cap2] 125)):=b_r.alloc n_l _;have HT:Hid (w3.ownsRow w.heap.size 125 1 (.slice (some ⟨g3,0,none⟩) (k+1) cap3) (k+1) (xs++[Value.slice (some ⟨g2,0,none⟩) rs[k].length cap2])/\RecO w3 w.heap.size (xs++[Value.slice (some ⟨g2,0,none⟩) rs[k].length cap2]) (rs.take (k+1))/\Below w.heap.size w w3):=by
     refine⟨hown3,?_,(HB2.out.trans (hbe.mono HB2.out.size)).grown hgrow3 (by simp;omega) (fun g hg=>(hown2.lt g hg).1)⟩;rw[List.take_succ_eq_append_getElem hlt];refine RecO.kept (w:=w2) ?_ (fun v n l h=>c6 (aX h hbe) (World.ownsRow.alloc hown2 _) (by decide) hgrow3);exact HO2.out.next (b9 HV2.out (by omega))
    clear hown2 hown3 hgrow3 hat3 hlt3;go_roundw
    case rel=>exact⟨k+1,_,by omega,by go_num,HT.out.1,HT.out.2.1,HT.out.2.2⟩
    case measure=>simp[intOf];omega
  ·have hkl:k=rs.length:=by omega
   have HO':=HO.out;rw[hkl,List.take_length] at HO';rw[hkl] at hown;have HF:Hid (wr.ownsRow w.heap.size 125 1 _ rs.length xs/\RecO wr w.heap.size xs rs):=⟨hown,HO'⟩;clear HO HO' hown;go_wp2;go_ret
   exact⟨_,xs,rfl,HF.out.1,HF.out.2,HB.out⟩
end Go.Proofs.YtbjmgmmekmfjhaaGreatDoor
