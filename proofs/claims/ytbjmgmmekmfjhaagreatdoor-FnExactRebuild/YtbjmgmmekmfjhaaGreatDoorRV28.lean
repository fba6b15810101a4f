/- RV28 -/
import Derived.Test.YtbjmgmmekmfjhaaGreatDoorRV27
set_option maxHeartbeats 32000000
set_option maxRecDepth 100000
namespace Go.Proofs.YtbjmgmmekmfjhaaGreatDoor
open Go.RowKit
theorem eK(vals:List Vl)(nums:List Int)(first:Nat):∀(l:List Sr) (met:List Int) (j:Nat) (h:j<l.length),(bu vals nums first met l)[j]'(by rw[bN];exact h)=bJ vals nums first (metL met (l.take j)) l[j]
 | s :: l,met,0,_=>by simp[bu,metL]
 | s :: l,met,j+1,h=>by
  have:=eK vals nums first l (metS met s) j (by simpa using h)
  simp only[bu,List.getElem_cons_succ,List.take_succ_cons,metL,List.foldl_cons]
  exact this
def RowV (vals:List Vl)(nums:List Int)(hl:Nat)(ms:List Int)(l:List Sr)(k:Nat)(cur:Array Value):Prop:=
 ∀j (h:j<l.length),j<k->cur[j*3]?=some (.int .i64 (bJ vals nums hl (metL ms (l.take j)) l[j]).k)/\cur[j*3+1]?=some (.int .i64 (bJ vals nums hl (metL ms (l.take j)) l[j]).n)/\cur[j*3+2]?=some (.string (bJ vals nums hl (metL ms (l.take j)) l[j]).s)
theorem fu{w0 w:World}{lo Vb Nb Pb Hb Ub nb mb:Nat}{va na ha:Option Addr}{vc nc hl hc:Nat}(vals:List Vl)(nums:List Int)(a:Option Addr)(l:List Sr)(cap:Nat)(mv:Value)(ms:List Int)(q:WIn w0 w lo Vb Nb Pb Hb Ub nb va na ha vals.length vc nums.length nc hl hc)(hN:MetAt w lo nb mb mv ms)(hms:∀k≤l.length,(metL ms (l.take k)).length<=1048576)(hhl:hl<=1048576)(hv:aE vals)(hnl:nums.length<=1048576)(hva:aQ w0 0 va vals)(hna:a9 w0 0 na nums)(hn:l.length<=1048576)(hs:∀s∈l,et vals.length nums.length s)(hm:bD w0 0 a l) :
  Calls Tryz.prog 136 #[.slice a l.length cap,.func (.func 183) #[] #[.pointer (some ⟨Vb,0,none⟩),.pointer (some ⟨Nb,0,none⟩),.pointer (some ⟨Pb,0,none⟩)]] w fun e w'=>∃cur,e=.returned (.slice (some ⟨w.heap.size,0,none⟩) l.length l.length)/\w'.heap[w.heap.size]?=some (.cells cur 80 (0,0))/\RowV vals nums hl ms l l.length cur/\cur.size=l.length*3/\Km lo w w'/\∃mv',MetAt w' lo nb mb mv' (metL ms l):=by
 obtain⟨i0,hi,hz0,hz1,hz2⟩:=info_parts info80;go_enter Tryz.func136,Tryz.ntmps136
 go_wp2_with (first | (at_make;refine wpList_make_full _ rfl _ _ 62 rfl w.heap.size 80 i0 (.agg #[.int .i64 0,.int .i64 0,.string ByteArray.empty]) 3 Tryz.underlying62 hi hz0 hz1 _ _ _ _ l.length rfl rfl rfl rfl (by rw[hz2];omega) (by unfold maxLen;omega) n_l ?_;intro w1 hown hgrow))
 obtain⟨cur0,hblk,hsz⟩:=aY hown;have hb0:Below w.heap.size w w1:=b_r.grown hgrow n_l (by intro k hk;cases hk);clear hown hgrow hi hz0 hz1 hz2;go_loopw [13] (fun i wr=>∃(k:Nat) (cur:Array Value) (mv':Value),k<=l.length/\i=.int .i64 k/\wr.heap[w.heap.size]?=some (.cells cur 80 (0,0))/\cur.size=l.length*3/\RowV vals nums hl ms l k cur/\Km lo w wr/\MetAt wr lo nb mb mv' (metL ms (l.take k))) (fun i _=>l.length-(intOf i).toNat)
 case atStart=>exact⟨0,cur0,mv,by omega,rfl,hblk,hsz,fun j _ h=>by omega,Km.of hb0,by simpa[metL] using hN.mono hb0⟩
 case round=>
  obtain⟨k,cur,mv',hk,rfl,hblk,hsz,hdone,hKm,hMt⟩:=hrel;by_cases hlt:k<l.length
  ·have qr:=q.km hKm;obtain⟨b,off,rfl,-,c0,c1,c2,c3,c4⟩:=(hm.mono qr.b0) k hlt;have hbA:Below wr.heap.size wr (wr.alloc (.cells #[.int .i64 l[k].k,.int .i64 l[k].n,.int .i64 l[k].v.k,.int .i64 l[k].v.n,.string l[k].v.s] 212)):=b_r.alloc n_l _;have hblkA:=au hblk (.cells #[.int .i64 l[k].k,.int .i64 l[k].n,.int .i64 l[k].v.k,.int .i64 l[k].v.n,.string l[k].v.s] 212);have qA:=qr.km (Km.of hbA);have hMA:=hMt.mono hbA;have hKA:Km lo w (wr.alloc (.cells #[.int .i64 l[k].k,.int .i64 l[k].n,.int .i64 l[k].v.k,.int .i64 l[k].v.n,.string l[k].v.s] 212)):=hKm.trans (Km.of hbA);have hck:=hs l[k] (g_m hlt);have hmk:=hms k hk;have HD:Hid (RowV vals nums hl ms l k cur):=hdone;clear hdone hMt hKm qr hbA;go_wp2_with fail
   refine (worth_any vals nums l[k] mv' (metL ms (l.take k)) qA hMA hmk hhl hv hnl hva hna hck).mono ?_;rintro e w2 ⟨rfl,hk2,mv2,hM2⟩;have hblk2:=hk2.kept hblkA ⟨by decide,by decide⟩;have hfz:=aq hblk2;have hcl:w2.cell? ⟨w.heap.size,k*3,none⟩=some cur[k*3]:=by rw[ae hblk2];simp
   have hcl2:w2.cell? ⟨w.heap.size,k*3+1,none⟩=some cur[k*3+1]:=by rw[ae hblk2];simp
   have hcl3:w2.cell? ⟨w.heap.size,k*3+2,none⟩=some cur[k*3+2]:=by rw[ae hblk2];simp
   have HK:Hid (Km lo w w2/\MetAt w2 lo nb mb mv2 (metL ms (l.take (k+1)))):=⟨hKA.trans hk2,by rw[metL_more ms l k hlt];exact hM2⟩;obtain⟨x,hx⟩:∃x,x=bJ vals nums hl (metL ms (l.take k)) l[k]:=⟨_,rfl⟩;rw[<-hx];have HX:Hid (x=bJ vals nums hl (metL ms (l.take k)) l[k]):=hx;unfold cG;clear hx hk2 hM2 hKA hMA qA hblkA c0 c1 c2 c3 c4 hck hmk;go_wp2;go_roundw
   case rel=>
    refine⟨k+1,((cur.setIfInBounds (k*3) (.int .i64 x.k)).setIfInBounds (k*3+1) (.int .i64 x.n)).setIfInBounds (k*3+2) (.string x.s),mv2,by omega,by go_num,ak (ak (ak hblk2 _) _) _,by simpa using hsz,?_,((HK.out.1.setNew n_l _).setNew n_l _).setNew n_l _,((HK.out.2.set hblk2 ⟨by decide,by decide⟩ _).set (ak hblk2 _) ⟨by decide,by decide⟩ _).set (ak (ak hblk2 _) _) ⟨by decide,by decide⟩ _⟩;intro j hj hjk;by_cases e:j=k
    ·subst e;rw[<-HX.out];refine⟨?_,?_,?_⟩
     ·rw[aj _ (by omega),aj _ (by omega)];exact aC _ (by omega)
     ·rw[aj _ (by omega)];exact aC _ (by simp;omega)
     ·exact aC _ (by simp;omega)
    ·obtain⟨d1,d2,d3⟩:=HD.out j hj (by omega);refine⟨?_,?_,?_⟩
     ·rw[aj _ (by omega),aj _ (by omega),aj _ (by omega)];exact d1
     ·rw[aj _ (by omega),aj _ (by omega),aj _ (by omega)];exact d2
     ·rw[aj _ (by omega),aj _ (by omega),aj _ (by omega)];exact d3
   case measure=>simp[intOf];omega
  ·have hkl:k=l.length:=by omega
   have HD:Hid (RowV vals nums hl ms l l.length cur/\Km lo w wr/\∃mv',MetAt wr lo nb mb mv' (metL ms l)):=⟨hkl▸hdone,hKm,mv',by rw[hkl,List.take_length] at hMt;exact hMt⟩;clear hdone hKm hMt;go_wp2;go_ret
   exact⟨cur,rfl,hblk,HD.out.1,hsz,HD.out.2.1,HD.out.2.2⟩
def gB (ms:List Int)(l:List Sr):Prop:=∀k≤l.length,(metL ms (l.take k)).length<=1048576
def frAgg (f:EF)(la sa:Option Addr)(lc sc:Nat):Value:=.agg #[.int .i64 f.fn,.int .i64 f.pc,.slice la f.locals.length lc,.slice sa f.stack.length sc]
structure FrOut (vals:List Vl)(nums:List Int)(hl:Nat)(ms:List Int)(f:EF)(lo nb mb:Nat)(w w':World)(g1 g2:Nat):Prop where
 lo1:w.heap.size<=g1
 lo2:w.heap.size<=g2
 lt:g1<g2
 b1:∃cur:Array Value,w'.heap[g1]?=some (.cells cur 80 (0,0))/\RowV vals nums hl ms f.locals f.locals.length cur/\cur.size=f.locals.length*3
 b2:∃cur:Array Value,w'.heap[g2]?=some (.cells cur 80 (0,0))/\RowV vals nums hl (metL ms f.locals) f.stack f.stack.length cur/\cur.size=f.stack.length*3
 km:Km lo w w'
 met:∃mv',MetAt w' lo nb mb mv' (metF ms f)
theorem frameW_any{w0 w:World}{lo Vb Nb Pb Hb Ub Wb nb mb:Nat}{va na ha:Option Addr}{vc nc hl hc:Nat}(vals:List Vl)(nums:List Int)(f:EF)(la sa:Option Addr)(lc sc:Nat)(mv:Value)(ms:List Int)(q:WIn w0 w lo Vb Nb Pb Hb Ub nb va na ha vals.length vc nums.length nc hl hc)
  (hW:w.heap[Wb]?=some (.cells #[.func (.func 183) #[] #[.pointer (some ⟨Vb,0,none⟩),.pointer (some ⟨Nb,0,none⟩),.pointer (some ⟨Pb,0,none⟩)]] 206 (0,0)))
  (hN:MetAt w lo nb mb mv ms) (hm1:gB ms f.locals) (hm2:gB (metL ms f.locals) f.stack) (hhl:hl<=1048576) (hv:aE vals) (hnl:nums.length<=1048576) (hva:aQ w0 0 va vals) (hna:a9 w0 0 na nums)
  (hn1:f.locals.length<=1048576)(hn2:f.stack.length<=1048576)(hs1:∀s∈f.locals,et vals.length nums.length s)(hs2:∀s∈f.stack,et vals.length nums.length s)(ha1:bD w0 0 la f.locals)(ha2:bD w0 0 sa f.stack) :
  Calls Tryz.prog 135 #[frAgg f la sa lc sc,.pointer (some ⟨Wb,0,none⟩)] w fun e w'=>∃g1 g2,e=.returned (frAgg f (some ⟨g1,0,none⟩) (some ⟨g2,0,none⟩) f.locals.length f.stack.length)/\FrOut vals nums hl ms f lo nb mb w w' g1 g2:=by
 unfold frAgg;obtain⟨wA,hwA⟩:∃wA,wA=(w.alloc (.cells #[.int .i64 f.fn,.int .i64 f.pc,.slice la f.locals.length lc,.slice sa f.stack.length sc] 114)).alloc (.cells #[.int .i64 0,.int .i64 0,.slice none 0 0,.slice none 0 0] 136):=⟨_,rfl⟩;have hbA:Below w.heap.size w wA:=by rw[hwA];exact (b_r.alloc n_l _).alloc (by simp) _
 have hF0:wA.heap[w.heap.size]?=some (.cells #[.int .i64 f.fn,.int .i64 f.pc,.slice la f.locals.length lc,.slice sa f.stack.length sc] 114 (0,0)):=by rw[hwA];exact au (al _ _ _) _
 have hR0:wA.heap[w.heap.size+1]?=some (.cells #[.int .i64 0,.int .i64 0,.slice none 0 0,.slice none 0 0] 136 (0,0)):=by rw[hwA];exact aA _ _ _ _ (by simp)
 have hW0:=ah hW hbA;have qA:=q.km (Km.of hbA);have hMA:=hN.mono hbA;have f0:=ae hF0;have v0:=ae hW0;have hsA:w.heap.size+1<wA.heap.size:=ay hR0;clear q hW hN;go_enter Tryz.func135,Tryz.ntmps135
 go_upto_region 1 with fail
 rw[<-hwA];clear hwA;go_wp2_with fail
 refine (fu vals nums la f.locals lc mv ms qA hMA hm1 hhl hv hnl hva hna hn1 hs1 ha1).mono ?_;rintro e w1 ⟨cur1,rfl,hB1,hV1,hz1,hK1,mv1,hM1⟩;have q1:=qA.km hK1;have hF1:=hK1.kept hF0 ⟨by decide,by decide⟩;have hR1:=hK1.kept hR0 ⟨by decide,by decide⟩;have hW1:=hK1.kept hW0 ⟨by decide,by decide⟩;have hs1':wA.heap.size<w1.heap.size:=ay hB1;have HK1:Hid (Km lo w w1):=(Km.of hbA).trans hK1;clear f0 v0 qA hMA hF0 hR0 hW0 hK1 hbA;go_wp2;have hh:(fun w':World=>w'.cell? ⟨w.heap.size,0,none⟩=some (.int .i64 f.fn)/\w'.cell? ⟨w.heap.size,1,none⟩=some (.int .i64 f.pc)/\w'.cell? ⟨w.heap.size,3,none⟩=some (.slice sa f.stack.length sc)/\w'.cell? ⟨Wb,0,none⟩=some (.func (.func 183) #[] #[.pointer (some ⟨Vb,0,none⟩),.pointer (some ⟨Nb,0,none⟩),.pointer (some ⟨Pb,0,none⟩)])) w1.drew:=⟨by rw[ae (ah hF1 b_r.drew)];rfl,by rw[ae (ah hF1 b_r.drew)];rfl,by rw[ae (ah hF1 b_r.drew)];rfl,by rw[ae (ah hW1 b_r.drew)];rfl⟩;refine gd (fun w':World=>w'.cell? ⟨w.heap.size,0,none⟩=some (.int .i64 f.fn)/\w'.cell? ⟨w.heap.size,1,none⟩=some (.int .i64 f.pc)/\w'.cell? ⟨w.heap.size,3,none⟩=some (.slice sa f.stack.length sc)/\w'.cell? ⟨Wb,0,none⟩=some (.func (.func 183) #[] #[.pointer (some ⟨Vb,0,none⟩),.pointer (some ⟨Nb,0,none⟩),.pointer (some ⟨Pb,0,none⟩)])) (by kernel_rfl) ?_;refine aH (i:=0) (oi:=_) (v:=?_) rfl (by kernel_rfl) (by kernel_rfl) (by kernel_rfl) (fun _ _ _ h=>h) (by kernel_rfl) ?_ hh ?_;rotate_left
 ·intro w' hSw;obtain⟨y0,y1,y2,y3⟩:=hSw;go_simp;try with_reducible rfl
 simp only[Act.put,List.setIfInBounds_toArray]
 refine aH (i:=1) (oi:=_) (v:=?_) rfl (by kernel_rfl) (by kernel_rfl) (by kernel_rfl) (fun _ _ _ h=>h) (by kernel_rfl) ?_ hh ?_;rotate_left
 ·intro w' hSw;obtain⟨y0,y1,y2,y3⟩:=hSw;go_simp;try with_reducible rfl
 simp only[Act.put]
 refine aH (i:=2) (oi:=_) (v:=?_) rfl (by kernel_rfl) (by kernel_rfl) (by kernel_rfl) (fun _ _ _ h=>h) (by kernel_rfl) ?_ hh ?_;rotate_left
 ·intro w' hSw;obtain⟨y0,y1,y2,y3⟩:=hSw;go_simp;try with_reducible rfl
 simp only[Act.put]
 refine aH (i:=3) (oi:=_) (v:=?_) rfl (by kernel_rfl) (by kernel_rfl) (by kernel_rfl) (fun _ _ _ h=>h) (by kernel_rfl) ?_ hh ?_;rotate_left
 ·intro w' hSw;obtain⟨y0,y1,y2,y3⟩:=hSw;go_simp;try with_reducible rfl
 simp only[Act.put]
 refine aH (i:=4) (oi:=_) (v:=?_) rfl (by kernel_rfl) (by kernel_rfl) (by kernel_rfl) (fun _ _ _ h=>h) (by kernel_rfl) ?_ hh ?_;rotate_left
 ·intro w' hSw;obtain⟨y0,y1,y2,y3⟩:=hSw;go_simp;try with_reducible rfl
 simp only[Act.put]
 refine aH (i:=5) (oi:=_) (v:=?_) rfl (by kernel_rfl) (by kernel_rfl) (by kernel_rfl) (fun _ _ _ h=>h) (by kernel_rfl) ?_ hh ?_;rotate_left
 ·intro w' hSw;obtain⟨y0,y1,y2,y3⟩:=hSw;go_simp;try with_reducible rfl
 simp only[Act.put]
 refine aH (i:=6) (oi:=_) (v:=?_) rfl (by kernel_rfl) (by kernel_rfl) (by kernel_rfl) (fun _ _ _ h=>h) (by kernel_rfl) ?_ hh ?_;rotate_left
 ·intro w' hSw;obtain⟨y0,y1,y2,y3⟩:=hSw;go_simp;try with_reducible rfl
 simp only[Act.put]
 refine aH (i:=7) (oi:=_) (v:=?_) rfl (by kernel_rfl) (by kernel_rfl) (by kernel_rfl) (fun _ _ _ h=>h) (by kernel_rfl) ?_ hh ?_;rotate_left
 ·intro w' hSw;obtain⟨y0,y1,y2,y3⟩:=hSw;go_simp;try with_reducible rfl
 simp only[Act.put]
 refine dz (i:=8) (o:=_) (by kernel_rfl) rfl (fun K hK=>?_);go_simp;have hbd:Below w1.heap.size w1 w1.drew:=b_r.drew;refine (fu vals nums sa f.stack sc mv1 (metL ms f.locals) (q1.km (Km.of hbd)) (hM1.mono hbd) hm2 hhl hv hnl hva hna hn2 hs2 ha2).mono ?_;rintro e w2 ⟨cur2,rfl,hB2,hV2,hz2,hK2,mv2,hM2⟩;have hF2:=hK2.kept (ah hF1 hbd) ⟨by decide,by decide⟩;have hW2:=hK2.kept (ah hW1 hbd) ⟨by decide,by decide⟩;have hR2:=hK2.kept (ah hR1 hbd) ⟨by decide,by decide⟩;have hB1':=hK2.kept (ah hB1 hbd) ⟨by decide,by decide⟩;have HK2:Hid (Km lo w w2/\MetAt w2 lo nb mb mv2 (metF ms f)):=⟨HK1.out.trans ((Km.of hbd).trans hK2),hM2⟩;have hs2':w1.heap.size<w2.heap.size:=ay hB2;have hh:(fun w':World=>w'.cell? ⟨w.heap.size,0,none⟩=some (.int .i64 f.fn)/\w'.cell? ⟨w.heap.size,1,none⟩=some (.int .i64 f.pc)/\w'.cell? ⟨w.heap.size,3,none⟩=some (.slice sa f.stack.length sc)/\w'.cell? ⟨Wb,0,none⟩=some (.func (.func 183) #[] #[.pointer (some ⟨Vb,0,none⟩),.pointer (some ⟨Nb,0,none⟩),.pointer (some ⟨Pb,0,none⟩)])) w2:=⟨ckc hF2 rfl,ckc hF2 rfl,ckc hF2 rfl,ckc hW2 rfl⟩;refine hK.out _ _ hh ?_;clear hK K hK2 hM2 hF1 hW1 hR1 hB1 hM1 q1 hbd;try simp only[Act.put]
 refine aH (i:=9) (oi:=_) (v:=?_) rfl (by kernel_rfl) (by kernel_rfl) (by kernel_rfl) (fun _ _ _ h=>h) (by kernel_rfl) ?_ hh ?_;rotate_left
 ·intro w' hSw;obtain⟨y0,y1,y2,y3⟩:=hSw;go_simp;try with_reducible rfl
 simp only[Act.put]
 have r1:=ae hR2;have r2:=aq hR2;refine dz (i:=10) (o:=_) (by kernel_rfl) rfl (fun K hK=>?_);go_simp;have hne:Wb≠w.heap.size+1:=fun e=>by rw[e,hR2] at hW2;cases hW2
 obtain⟨wF,hwF⟩:∃wF,wF=(((w2.setCell ⟨w.heap.size+1,0,none⟩ (.int .i64 f.fn)).setCell ⟨w.heap.size+1,1,none⟩ (.int .i64 f.pc)).setCell ⟨w.heap.size+1,2,none⟩ (.slice (some ⟨wA.heap.size,0,none⟩) f.locals.length f.locals.length)).setCell ⟨w.heap.size+1,3,none⟩ (.slice (some ⟨w1.heap.size,0,none⟩) f.stack.length f.stack.length):=⟨_,rfl⟩;rw[<-hwF];have keep:∀g o,g≠w.heap.size+1->w2.heap[g]?=some o->wF.heap[g]?=some o:=fun g o hg ho=>by
  rw[hwF,Below.heap_setCell _ _ _ _ hg,Below.heap_setCell _ _ _ _ hg,Below.heap_setCell _ _ _ _ hg,Below.heap_setCell _ _ _ _ hg];exact ho
 have hF3:=keep _ _ (by omega) hF2;have hW3:=keep _ _ hne hW2;have hR3:wF.heap[w.heap.size+1]?=some (.cells #[.int .i64 f.fn,.int .i64 f.pc,.slice (some ⟨wA.heap.size,0,none⟩) f.locals.length f.locals.length,.slice (some ⟨w1.heap.size,0,none⟩) f.stack.length f.stack.length] 136 (0,0)):=by
  rw[hwF];have:=ak (i:=3) (ak (i:=2) (ak (i:=1) (ak (i:=0) hR2 (.int .i64 f.fn)) (.int .i64 f.pc)) (.slice (some ⟨wA.heap.size,0,none⟩) f.locals.length f.locals.length)) (.slice (some ⟨w1.heap.size,0,none⟩) f.stack.length f.stack.length);simpa using this
 have o0:∀c:Array Value,eO (.cells c 136 (0,0)):=fun c=>⟨by decide,by decide⟩
 have HF:Hid (Km lo w wF/\MetAt wF lo nb mb mv2 (metF ms f)):=by
  rw[hwF]
  exact⟨(((HK2.out.1.setNew (by omega) _).setNew (by omega) _).setNew (by omega) _).setNew (by omega) _,
   (((HK2.out.2.set hR2 (o0 _) _).set (ak hR2 _) (o0 _) _).set (ak (ak hR2 _) _) (o0 _) _).set (ak (ak (ak hR2 _) _) _) (o0 _) _⟩
 have HB:Hid (wF.heap[wA.heap.size]?=some (.cells cur1 80 (0,0))/\wF.heap[w1.heap.size]?=some (.cells cur2 80 (0,0))):=⟨keep _ _ (by omega) hB1',keep _ _ (by omega) hB2⟩;refine hK.out _ _ (show (fun w':World=>w'.cell? ⟨w.heap.size,0,none⟩=some (.int .i64 f.fn)/\w'.cell? ⟨w.heap.size,1,none⟩=some (.int .i64 f.pc)/\w'.cell? ⟨w.heap.size,3,none⟩=some (.slice sa f.stack.length sc)/\w'.cell? ⟨Wb,0,none⟩=some (.func (.func 183) #[] #[.pointer (some ⟨Vb,0,none⟩),.pointer (some ⟨Nb,0,none⟩),.pointer (some ⟨Pb,0,none⟩)])) wF from ⟨ckc hF3 rfl,ckc hF3 rfl,ckc hF3 rfl,ckc hW3 rfl⟩) ?_
 clear hK K hwF keep hF2 hW2 hR2 hB1' hB2 r1 r2 hh HK2 HK1 hF3 hW3;try simp only[Act.put]
 refine wpAnyH_done (by kernel_rfl) ?_ _;have r1:=ae hR3;go_wp2;refine bodyPost_ret (v:=.agg #[.int .i64 f.fn,.int .i64 f.pc,.slice (some ⟨wA.heap.size,0,none⟩) f.locals.length f.locals.length,.slice (some ⟨w1.heap.size,0,none⟩) f.stack.length f.stack.length]) (by simp[results,Tryz.results135,go_sem,r1]) rfl ?_;exact⟨wA.heap.size,w1.heap.size,rfl,by omega,by omega,by omega,⟨cur1,HB.out.1,hV1,hz1⟩,⟨cur2,HB.out.2,hV2,hz2⟩,HF.out.1,mv2,HF.out.2⟩
end Go.Proofs.YtbjmgmmekmfjhaaGreatDoor
