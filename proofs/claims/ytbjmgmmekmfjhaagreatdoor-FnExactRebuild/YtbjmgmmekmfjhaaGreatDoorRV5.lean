/- RV5 -/
import Derived.Test.YtbjmgmmekmfjhaaGreatDoorRV3
import Derived.Test.YtbjmgmmekmfjhaaGreatDoorRV4
import Derived.Deep.CutRange
import Derived.Deep.Quiet
set_option maxHeartbeats 32000000
set_option maxRecDepth 100000
namespace Go.Proofs.YtbjmgmmekmfjhaaGreatDoor
open Go.RowKit
def insD (fs:List Fn)(f p:Int):Option (Int×Int):=if 0<=f/\0<=p then (fs[f.toNat]?).bind (fun g=>g.code[p.toNat]?) else none
theorem fP{fs:List Fn}{f p:Nat}(hf:f<fs.length)(hp:p<fs[f].code.length):insD fs f p=some fs[f].code[p]:=by
 unfold insD;rw[if_pos ⟨Int.natCast_nonneg _,Int.natCast_nonneg _⟩];simp[hf,hp]
theorem fG{fs:List Fn}{f p:Int}{x:Int×Int}(h:insD fs f p=some x):∃(f' p':Nat) (hf:f'<fs.length) (hp:p'<fs[f'].code.length),f=f'/\p=p'/\fs[f'].code[p']=x:=by
 unfold insD at h;split at h
 ·rename_i h0
  obtain⟨g,hg,hx⟩:=Option.bind_eq_some_iff.1 h;obtain⟨hf,rfl⟩:=List.getElem?_eq_some_iff.1 hg;obtain⟨hp,hx⟩:=List.getElem?_eq_some_iff.1 hx;exact⟨f.toNat,p.toNat,hf,hp,by omega,by omega,hx⟩
 ·cases h
theorem insAt_hit(a1 a2:Option Addr)(nt c1 c2:Nat)(fs:List Fn)(f p:Nat)(w:World)(hc:∀f∈fs,f.code.length<=1048576)(hm:FnsAt w 0 a2 fs)(hf:f<fs.length)(hp:p<fs[f].code.length) :
  Calls Tryz.prog 221 #[.agg #[.slice a1 nt c1,.slice a2 fs.length c2],.agg #[.int .i64 f,.int .i64 p]] w fun e w'=>e=.returned (.tuple #[.agg #[.int .i64 fs[f].code[p].1,.int .i64 fs[f].code[p].2],.bool true])/\Below w.heap.size w w':=by
 obtain⟨b,off,ca,cc,rfl,-,d1,d2,d3,hcode⟩:=hm f hf;have hcl:=hc _ (g_m hf);obtain⟨b2,off2,rfl,-,e1,e2⟩:=hcode p hp;clear hcode d1 d2;obtain⟨op,hop⟩:∃op,op=fs[f].code[p].1:=⟨_,rfl⟩;obtain⟨ar,har⟩:∃ar,ar=fs[f].code[p].2:=⟨_,rfl⟩;rw[<-hop] at e1 ⊢;rw[<-har] at e2 ⊢;clear hop har;obtain⟨nc,hnc⟩:∃nc,nc=fs[f].code.length:=⟨_,rfl⟩;rw[<-hnc] at d3 hp hcl;clear hnc;obtain⟨nf,hnf⟩:∃nf,nf=fs.length:=⟨_,rfl⟩;rw[<-hnf] at hf ⊢;clear hnf hc hm;obtain⟨wA,hwA⟩:∃wA,wA=((w.alloc (.cells #[.slice a1 nt c1,.slice (some ⟨b,off,none⟩) nf c2] 36)).alloc (.cells #[.int .i64 f,.int .i64 p] 182)).alloc (.cells #[.int .i64 0,.int .i64 0] 263):=⟨_,rfl⟩;have hB:Below w.heap.size w wA:=by rw[hwA];exact ((b_r.alloc n_l _).alloc (by simp) _).alloc (by simp;omega) _
 have hM:wA.heap[w.heap.size]?=some (.cells #[.slice a1 nt c1,.slice (some ⟨b,off,none⟩) nf c2] 36 (0,0)):=by rw[hwA];exact au (au (al _ _ _) _) _
 have hA:wA.heap[w.heap.size+1]?=some (.cells #[.int .i64 f,.int .i64 p] 182 (0,0)):=by rw[hwA];exact au (by simpa using al (w.alloc (.cells #[.slice a1 nt c1,.slice (some ⟨b,off,none⟩) nf c2] 36)) #[.int .i64 f,.int .i64 p] 182) _
 have hR:wA.heap[w.heap.size+1+1]?=some (.cells #[.int .i64 0,.int .i64 0] 263 (0,0)):=by rw[hwA];simpa using al ((w.alloc (.cells #[.slice a1 nt c1,.slice (some ⟨b,off,none⟩) nf c2] 36)).alloc (.cells #[.int .i64 f,.int .i64 p] 182)) #[.int .i64 0,.int .i64 0] 263
 have HS:Hid (∀w',Below (w.heap.size+2) wA w'->w'.cell? ⟨w.heap.size,1,none⟩=some (.slice (some ⟨b,off,none⟩) nf c2)/\w'.cell? ⟨w.heap.size+1,0,none⟩=some (.int .i64 f)/\w'.cell? ⟨w.heap.size+1,1,none⟩=some (.int .i64 p)/\w'.cell? ⟨b,off+f*3+2,none⟩=some (.slice (some ⟨b2,off2,none⟩) nc cc)/\w'.cell? ⟨b2,off2+p*2,none⟩=some (.int .i64 op)/\w'.cell? ⟨b2,off2+p*2+1,none⟩=some (.int .i64 ar)):=fun w' q=>by
  have q2:Below w.heap.size w w':=hB.trans (q.mono (by omega));exact⟨by rw[q.cell (by simp),ae hM];rfl,by rw[q.cell (by simp),ae hA];rfl,by rw[q.cell (by simp),ae hA];rfl,cell_later q2 d3,cell_later q2 e1,cell_later q2 e2⟩
 have q0:Below (w.heap.size+2) wA wA:=Below.refl _ _;go_enter Tryz.func221,Tryz.ntmps221
 go_upto_region 1 with fail
 rw[<-hwA];clear hwA;obtain⟨j0,j1,j2,j3,j4,j5⟩:=HS.out wA q0;have g1:¬((f:Int)<0):=by omega
 have g2:¬((nf:Int)<=(f:Int)):=by omega
 have g3:¬((p:Int)<0):=by omega
 have g4:¬((nc:Int)<=(p:Int)):=by omega
 go_big_quiet (fail)
 go_upto_region 3 with fail
 have q:Below (w.heap.size+2) wA (wA.drewN nq).drew:=(aF b_r _).drew;have z1:wA.cell? ⟨w.heap.size+1+1,0,none⟩=some (.int .i64 0):=ae hR 0;have z1b:wA.cell? ⟨w.heap.size+1+1,1,none⟩=some (.int .i64 0):=ae hR 1;have z2:=aq hR 0;have z3:=aq hR 1
 go_region_held3 (fun w'=>w'.cell? ⟨w.heap.size,1,none⟩=some (.slice (some ⟨b,off,none⟩) nf c2)/\w'.cell? ⟨w.heap.size+1,0,none⟩=some (.int .i64 f)/\w'.cell? ⟨w.heap.size+1,1,none⟩=some (.int .i64 p)/\w'.cell? ⟨b,off+f*3+2,none⟩=some (.slice (some ⟨b2,off2,none⟩) nc cc)/\w'.cell? ⟨b2,off2+p*2,none⟩=some (.int .i64 op)/\w'.cell? ⟨b2,off2+p*2+1,none⟩=some (.int .i64 ar))
  (first | exact HS.out _ (aF b_r _) | exact HS.out _ (aF b_r _).drew | (refine HS.out _ ?_;repeat (first | refine Below.setCell ?_ (by first | omega | (simp;omega) | simp) _ | refine Below.drew ?_ | exact aF b_r _)))
  (fail)
 have hR2:(((wA.drewN (nq+1)).setCell ⟨w.heap.size+1+1,0,none⟩ (.int .i64 op)).setCell ⟨w.heap.size+1+1,1,none⟩ (.int .i64 ar)).heap[w.heap.size+1+1]?=some (.cells #[.int .i64 op,.int .i64 ar] 263 (0,0)):=by
  have h1:=ak (i:=0) (ah hR (aF b_r (nq+1))) (.int .i64 op);have h2:=ak (i:=1) h1 (.int .i64 ar);simpa using h2
 have r1:=ae hR2;clear z1 z1b z2 z3 hR2;go_wp2;refine bodyPost_ret (v:=.tuple #[.agg #[.int .i64 op,.int .i64 ar],.bool true]) (by simp[results,Tryz.results221,go_sem,r1]) rfl ⟨rfl,?_⟩;exact ((aF hB _).setCell (by simp;omega) _).setCell (by simp;omega) _
theorem insAt_miss(a1 a2:Option Addr)(nt c1 c2:Nat)(fs:List Fn)(f p:Int)(w:World)(hc:∀f∈fs,f.code.length<=1048576)(hm:FnsAt w 0 a2 fs)(hno:insD fs f p=none) :
  Calls Tryz.prog 221 #[.agg #[.slice a1 nt c1,.slice a2 fs.length c2],.agg #[.int .i64 f,.int .i64 p]] w fun e w'=>e=.returned (.tuple #[.agg #[.int .i64 0,.int .i64 0],.bool false])/\Below w.heap.size w w':=by
 obtain⟨nf,hnf⟩:∃nf,nf=fs.length:=⟨_,rfl⟩;obtain⟨wA,hwA⟩:∃wA,wA=((w.alloc (.cells #[.slice a1 nt c1,.slice a2 nf c2] 36)).alloc (.cells #[.int .i64 f,.int .i64 p] 182)).alloc (.cells #[.int .i64 0,.int .i64 0] 263):=⟨_,rfl⟩;have hB:Below w.heap.size w wA:=by rw[hwA];exact ((b_r.alloc n_l _).alloc (by simp) _).alloc (by simp;omega) _
 have hM:wA.heap[w.heap.size]?=some (.cells #[.slice a1 nt c1,.slice a2 nf c2] 36 (0,0)):=by rw[hwA];exact au (au (al _ _ _) _) _
 have hA:wA.heap[w.heap.size+1]?=some (.cells #[.int .i64 f,.int .i64 p] 182 (0,0)):=by rw[hwA];exact au (by simpa using al (w.alloc (.cells #[.slice a1 nt c1,.slice a2 nf c2] 36)) #[.int .i64 f,.int .i64 p] 182) _
 have hR:wA.heap[w.heap.size+1+1]?=some (.cells #[.int .i64 0,.int .i64 0] 263 (0,0)):=by rw[hwA];simpa using al ((w.alloc (.cells #[.slice a1 nt c1,.slice a2 nf c2] 36)).alloc (.cells #[.int .i64 f,.int .i64 p] 182)) #[.int .i64 0,.int .i64 0] 263
 have j0:=ae hM;have j1:=ae hA;have z1:=ae hR;have z2:=aq hR;have HN:Hid (0<=f->0<=p->∀(hf:f.toNat<fs.length),¬p.toNat<fs[f.toNat].code.length):=by
  show _->_
  intro h0 h1 hf hp;have:=fP hf hp;rw[show ((f.toNat:Nat):Int)=f by omega,show ((p.toNat:Nat):Int)=p by omega,hno] at this
  cases this
 clear hno;rw[<-hnf];have HNF:Hid (nf=fs.length):=hnf;clear hnf;by_cases h1:f<0
 ·clear hc hm hM hA hR;go_enter Tryz.func221,Tryz.ntmps221
  go_upto_region 1 with fail
  rw[<-hwA];clear hwA;go_big_quiet (fail)
  go_wp2;refine bodyPost_ret (v:=.tuple #[.agg #[.int .i64 0,.int .i64 0],.bool false]) (by simp[results,Tryz.results221,go_sem,z1]) rfl ⟨rfl,?_⟩;exact ((aF hB _).setCell (by simp;omega) _).setCell (by simp;omega) _
 obtain⟨f,rfl⟩:∃f':Nat,f=f':=⟨f.toNat,by omega⟩;by_cases h2:f<nf
 case neg=>
  clear hc hm hM hA hR;go_enter Tryz.func221,Tryz.ntmps221
  go_upto_region 1 with fail
  rw[<-hwA];clear hwA;have g1:¬((f:Int)<0):=by omega
  have g2:(nf:Int)<=(f:Int):=by omega
  go_big_quiet (fail)
  go_wp2;refine bodyPost_ret (v:=.tuple #[.agg #[.int .i64 0,.int .i64 0],.bool false]) (by simp[results,Tryz.results221,go_sem,z1]) rfl ⟨rfl,?_⟩;exact ((aF hB _).setCell (by simp;omega) _).setCell (by simp;omega) _
 by_cases h3:p<0
 ·clear hc hm hM hA hR;go_enter Tryz.func221,Tryz.ntmps221
  go_upto_region 1 with fail
  rw[<-hwA];clear hwA;have g1:¬((f:Int)<0):=by omega
  have g2:¬(nf:Int)<=(f:Int):=by omega
  go_big_quiet (fail)
  go_wp2;refine bodyPost_ret (v:=.tuple #[.agg #[.int .i64 0,.int .i64 0],.bool false]) (by simp[results,Tryz.results221,go_sem,z1]) rfl ⟨rfl,?_⟩;exact ((aF hB _).setCell (by simp;omega) _).setCell (by simp;omega) _
 obtain⟨p,rfl⟩:∃p':Nat,p=p':=⟨p.toNat,by omega⟩;have h2':f<fs.length:=by rw[<-HNF.out];exact h2
 have h4:=HN.out (by omega) (by omega) (by simpa using h2');simp only[Int.toNat_natCast] at h4
 obtain⟨b,off,ca,cc,rfl,-,d1,d2,d3,hcode⟩:=hm f h2';have hcl:=hc _ (g_m h2');have d3':=cell_later hB d3;clear d1 d2 d3 hcode hc hm hM hA hR HN;obtain⟨nc,hnc⟩:∃nc,nc=fs[f].code.length:=⟨_,rfl⟩;rw[<-hnc] at d3' h4 hcl;clear hnc;go_enter Tryz.func221,Tryz.ntmps221
 go_upto_region 1 with fail
 rw[<-hwA];clear hwA;have g1:¬((f:Int)<0):=by omega
 have g2:¬(nf:Int)<=(f:Int):=by omega
 have g3:¬((p:Int)<0):=by omega
 have g4:(nc:Int)<=(p:Int):=by omega
 go_big_quiet (fail)
 go_wp2;refine bodyPost_ret (v:=.tuple #[.agg #[.int .i64 0,.int .i64 0],.bool false]) (by simp[results,Tryz.results221,go_sem,z1]) rfl ⟨rfl,?_⟩;exact ((aF hB _).setCell (by simp;omega) _).setCell (by simp;omega) _
theorem insAt_any(a1 a2:Option Addr)(nt c1 c2:Nat)(fs:List Fn)(f p:Int)(w:World)(hc:∀f∈fs,f.code.length<=1048576)(hm:FnsAt w 0 a2 fs) :
  Calls Tryz.prog 221 #[.agg #[.slice a1 nt c1,.slice a2 fs.length c2],.agg #[.int .i64 f,.int .i64 p]] w fun e w'=>e=.returned (.tuple #[.agg #[.int .i64 ((insD fs f p).getD (0,0)).1,.int .i64 ((insD fs f p).getD (0,0)).2],.bool (insD fs f p).isSome])/\Below w.heap.size w w':=by
 cases h:insD fs f p with
 | none=>exact insAt_miss a1 a2 nt c1 c2 fs f p w hc hm h
 | some x=>
  obtain⟨f',p',hf,hp,rfl,rfl,rfl⟩:=fG h;exact insAt_hit a1 a2 nt c1 c2 fs f' p' w hc hm hf hp
section
open Classical
noncomputable def pB (P:Prop):Bool:=decide P
theorem aL{P:Prop}(h:P):pB P=true:=by simpa[pB] using h
theorem aJ{P:Prop}(h:¬P):pB P=false:=by simpa[pB] using h
end
theorem numberOp_yes{op:Int}(h:11<=op/\op<=14)(w:World):Calls Tryz.prog 297 #[.int .i64 op] w fun e w'=>e=.returned (.bool true)/\w'=w:=by
 have:=numberOp_any op w;rwa [decide_eq_true h] at this
theorem numberOp_no{op:Int}(h:¬(11<=op/\op<=14))(w:World):Calls Tryz.prog 297 #[.int .i64 op] w fun e w'=>e=.returned (.bool false)/\w'=w:=by
 have:=numberOp_any op w;rwa [decide_eq_false h] at this
theorem b6(w:World)(C:Array Value)(t:TypeId):(w.alloc (.cells C t)).drew.heap[w.heap.size]?=some (.cells C t (0,0)):=ah (al w C t) b_r.drew
theorem eZ{w:World}{g:Nat}{a b c d x y z u:Value}{t:TypeId}(h:w.heap[g]?=some (.cells #[a,b,c,d] t (0,0))):((((w.setCell ⟨g,0,none⟩ x).setCell ⟨g,1,none⟩ y).setCell ⟨g,2,none⟩ z).setCell ⟨g,3,none⟩ u).heap[g]?=some (.cells #[x,y,z,u] t (0,0)):=by
 simpa using ak (i:=3) (ak (i:=2) (ak (i:=1) (ak (i:=0) h x) y) z) u
section
variable {P:Program} {ops:Array Oper} {C:World->Prop} {Q:Act->Prop} {a:Act} {o:Oper} {rest:List Oper}
theorem am{v:Value}(hw:Region.wanted o (yielded ops a.tmps)=true)(hv:∀w,C w->Oper.quietUpon P C w v ((execOp a.eval o).run P w))(h:wpQuiet P ops C Q rest (a.put o.dst v)):wpQuiet P ops C Q (o :: rest) a:=by
 unfold wpQuiet;rw[if_pos hw];exact⟨v,hv,h⟩
end
theorem aB{P:Program}{id:Nat}{Q:Exit->Act->World->Prop}{a:Act}{w:World}{l:List Oper}(hm:P.follows .mixedOrders=true)(hB:Region.lexB .any l.toArray=true)
  (h:wpQuiet P l.toArray (fun w'=>Below w.heap.size w w') (fun a'=>∀w',Below w.heap.size w w'->Q .normal a' w') l a):(Code.region id l.toArray true).wp P Q a w:=
 wp_region_quiet (C:=fun w'=>Below w.heap.size w w') hm hB b_r.drew (by simpa using h)
def AscI (ss:List Si):Prop:=∀i (h:i<ss.length),0<i->cy ss[i-1] ss[i]
theorem dU(f p s t:Int)(w:World) :
  Calls Tryz.prog 109 #[.agg #[.int .i64 f,.int .i64 p,.int .i64 s,.int .i64 t]] w fun e w'=>e=.returned (.agg #[.int .i64 f,.int .i64 p])/\Below w.heap.size w w':=by
 go_enter Tryz.func109,Tryz.ntmps109
 go_wp2;refine bodyPost_ret (v:=.agg #[.int .i64 f,.int .i64 p]) (by simp[results,Tryz.results109,go_sem]) rfl ⟨rfl,?_⟩;repeat (first | refine Below.setCell ?_ (by first | omega | (simp;omega) | simp) _ | refine Below.alloc ?_ (by first | omega | (simp;omega) | simp) _ | exact Below.refl _ _)
theorem ascSpecs_any(a:Option Addr)(ss:List Si)(cap:Nat)(w:World)(hn:ss.length<=1048576)(hs:fg w 0 a ss) :
  Calls Tryz.prog 290 #[.slice a ss.length cap,.func (.func 109) #[] #[]] w fun e w'=>e=.returned (.bool (pB (AscI ss)))/\Below w.heap.size w w':=by
 go_enter Tryz.func290,Tryz.ntmps290
 go_wp2;go_loopw [5] (fun i wr=>∃(k:Nat),1<=k/\(k<=ss.length\/k=1)/\i=.int .i64 k/\Hid (∀j (hj:j<ss.length),j<k->0<j->cy ss[j-1] ss[j])/\Below w.heap.size w wr) (fun i _=>ss.length+1-(intOf i).toNat)
 case atStart=>exact⟨1,by omega,by omega,rfl,fun j _ h1 h2=>absurd h1 (by omega),Below.refl _ _⟩
 case round=>
  obtain⟨k,hk1,hk,rfl,hdone,hb⟩:=hrel;by_cases hlt:k<ss.length
  case neg=>
   have HD:Hid (AscI ss):=fun j hj h0=>hdone.out j hj (by omega) h0
   clear hdone;go_wp2;go_ret
   exact⟨ax (aL HD.out).symm,hb⟩
  case pos=>
   obtain⟨j,rfl⟩:∃j,k=j+1:=⟨k-1,by omega⟩;have hj1:j<ss.length:=by omega
   obtain⟨b,off,rfl,-,d1,d2,d3,d4⟩:=hs (j+1) hlt;obtain⟨b',off',hbe,-,e1,e2,e3,e4⟩:=hs j hj1
   cases hbe
   have HF:Hid (∀w',Below wr.heap.size wr w'->w'.cell? ⟨b,off+(j+1)*4,none⟩=some (.int .i64 ss[j+1].f)/\w'.cell? ⟨b,off+(j+1)*4+1,none⟩=some (.int .i64 ss[j+1].pc)/\w'.cell? ⟨b,off+(j+1)*4+2,none⟩=some (.int .i64 ss[j+1].seen)/\w'.cell? ⟨b,off+(j+1)*4+3,none⟩=some (.int .i64 ss[j+1].target)):=fun w' q=>
    ⟨cell_later q (cell_later hb d1),cell_later q (cell_later hb d2),cell_later q (cell_later hb d3),cell_later q (cell_later hb d4)⟩
   have HE:Hid (∀w',Below wr.heap.size wr w'->w'.cell? ⟨b,off+j*4,none⟩=some (.int .i64 ss[j].f)/\w'.cell? ⟨b,off+j*4+1,none⟩=some (.int .i64 ss[j].pc)/\w'.cell? ⟨b,off+j*4+2,none⟩=some (.int .i64 ss[j].seen)/\w'.cell? ⟨b,off+j*4+3,none⟩=some (.int .i64 ss[j].target)):=fun w' q=>
    ⟨cell_later q (cell_later hb e1),cell_later q (cell_later hb e2),cell_later q (cell_later hb e3),cell_later q (cell_later hb e4)⟩
   clear d1 d2 d3 d4 e1 e2 e3 e4 hs;have hC0:0<=orI (cmpI ss[j].f ss[j+1].f) (cmpI ss[j].pc ss[j+1].pc)↔¬cy ss[j] ss[j+1]:=cmp_less ss[j] ss[j+1];obtain⟨cr,hcr⟩:∃cr,cr=orI (cmpI ss[j].f ss[j+1].f) (cmpI ss[j].pc ss[j+1].pc):=⟨_,rfl⟩;rw[<-hcr] at hC0;have HC0:Hid (0<=cr↔¬cy ss[j] ss[j+1]):=hC0;have HCR:Hid (cr=orI (cmpI ss[j].f ss[j+1].f) (cmpI ss[j].pc ss[j+1].pc)):=hcr;clear hC0 hcr;go_upto_region 4 with fail
   refine aB (by kernel_rfl) (by kernel_rfl) ?_
   iterate 3
    refine am (v:=?_) (by kernel_rfl) ?_ ?_;rotate_left
    ·intro w' hC;obtain⟨j0,j1,j2,j3⟩:=HE.out w' hC;go_simp;try with_reducible rfl
    try simp only[Act.put,sAr,sZe,sSu]
   refine am (v:=.int .i64 (j:Int)) (by kernel_rfl) ?_ ?_
   ·intro w' hC;go_simp
    (rw[IntKind.wrap_i64];omega)
   try simp only[Act.put,sAr,sZe,sSu]
   have hj2:(0:Int)<=(j:Int):=by omega
   have hj3:(j:Int)<(ss.length:Int):=by omega
   have hj4:(0:Int)<=(j:Int)+1:=by omega
   have hj5:(j:Int)+1<(ss.length:Int):=by omega
   have hj6:((j:Int)+1).toNat=j+1:=by omega
   iterate 2
    refine am (v:=?_) (by kernel_rfl) ?_ ?_;rotate_left
    ·intro w' hC;obtain⟨j0,j1,j2,j3⟩:=HE.out w' hC;go_simp;try with_reducible rfl
    try simp only[Act.put,sAr,sZe,sSu]
   refine am (v:=.agg #[.int .i64 ss[j].f,.int .i64 ss[j].pc]) (by kernel_rfl) ?_ ?_
   ·intro w' hC;go_simp;refine (dU _ _ _ _ w').mono ?_;rintro e w'' ⟨rfl,hb2⟩;exact⟨rfl,hC.trans (hb2.mono hC.size)⟩
   try simp only[Act.put,sAr,sZe,sSu]
   iterate 5
    refine am (v:=?_) (by kernel_rfl) ?_ ?_;rotate_left
    ·intro w' hC;obtain⟨j0,j1,j2,j3⟩:=HF.out w' hC;go_simp;try with_reducible rfl
    try simp only[Act.put,sAr,sZe,sSu]
   refine am (v:=.agg #[.int .i64 ss[j+1].f,.int .i64 ss[j+1].pc]) (by kernel_rfl) ?_ ?_
   ·intro w' hC;go_simp;refine (dU _ _ _ _ w').mono ?_;rintro e w'' ⟨rfl,hb2⟩;exact⟨rfl,hC.trans (hb2.mono hC.size)⟩
   try simp only[Act.put,sAr,sZe,sSu]
   refine am (v:=.int .i64 cr) (by kernel_rfl) ?_ ?_
   ·intro w' hC;go_simp;refine (comparePlaces_any _ _ _ _ w').mono ?_;rintro e w'' ⟨rfl,hb2⟩;exact⟨by rw[HCR.out],hC.trans (hb2.mono hC.size)⟩
   try simp only[Act.put,sAr,sZe,sSu]
   by_cases h0:0<=cr
   ·have HX:Hid (¬cy ss[j] ss[j+1]):=HC0.out.1 h0
    iterate 1
     refine am (v:=?_) (by kernel_rfl) ?_ ?_;rotate_left
     ·intro w' hC;go_simp;try with_reducible rfl
     try simp only[Act.put,sAr,sZe,sSu]
    refine wpQuiet_nil ?_;intro w2 q2;go_wp2;go_ret
    exact⟨ax (aJ (fun h=>HX.out (by simpa using h (j+1) hlt (by omega)))).symm,hb.trans (q2.mono hb.size)⟩
   ·have HX:Hid (cy ss[j] ss[j+1]):=Classical.byContradiction (fun h=>h0 (HC0.out.2 h))
    iterate 1
     refine am (v:=?_) (by kernel_rfl) ?_ ?_;rotate_left
     ·intro w' hC;go_simp;try with_reducible rfl
     try simp only[Act.put,sAr,sZe,sSu]
    refine wpQuiet_nil ?_;intro w2 q2;go_wp2;go_roundw
    case rel=>
     refine⟨j+1+1,by omega,by omega,by go_num,?_,hb.trans (q2.mono hb.size)⟩;intro i hi h1 h2;by_cases e:i=j+1
     ·subst e;exact HX.out
     ·exact hdone.out i hi (by omega) h2
    case measure=>simp[intOf];omega
theorem toSpec_any(f p s t:Int)(w:World) :
  Calls Tryz.prog 154 #[.agg #[.int .i64 f,.int .i64 p,.int .i64 s,.int .i64 t]] w fun e w'=>e=.returned (.agg #[.int .i64 f,.int .i64 p,.int .i64 s,.int .i64 t])/\Below w.heap.size w w':=by
 go_enter Tryz.func154,Tryz.ntmps154
 go_wp2;refine bodyPost_ret (v:=.agg #[.int .i64 f,.int .i64 p,.int .i64 s,.int .i64 t]) (by simp[results,Tryz.results154,go_sem]) rfl ⟨rfl,?_⟩;exact ((b_r.alloc n_l _).alloc (by simp) _).alloc (by simp;omega) _
theorem eqSpec_same(f p s t:Int)(w:World) :
  Calls Tryz.prog 58 #[.agg #[.int .i64 f,.int .i64 p,.int .i64 s,.int .i64 t],.agg #[.int .i64 f,.int .i64 p,.int .i64 s,.int .i64 t]] w fun e w'=>e=.returned (.bool true)/\Below w.heap.size w w':=by
 go_enter Tryz.func58,Tryz.ntmps58
 go_wp2;go_ret
 exact⟨rfl,(b_r.alloc n_l _).alloc (by simp) _⟩
theorem uses23_in{fs:List Fn}{a:Int}(h0:0<=a)(h1:a<=6):aM fs 23 a=(a+1,1):=by
 unfold aM;simp[h0,h1]
theorem uses23_out{fs:List Fn}{a:Int}(h:¬(0<=a/\a<=6)):aM fs 23 a=(0,0):=by
 unfold aM;simp[h]
theorem uses24_in{fs:List Fn}{k:Nat}(h:k<fs.length):aM fs 24 (k:Int)=(fs[k].params,1):=by
 unfold aM;simp[h]
theorem uses24_out{fs:List Fn}{a:Int}(h:¬(0<=a/\a<fs.length)):aM fs 24 a=(0,0):=by
 unfold aM;simp[h]
theorem iUses_any(a1 a2:Option Addr)(nt c1 c2:Nat)(fs:List Fn)(op a:Int)(w:World)(hf:FnsAt w 0 a2 fs) :
  Calls Tryz.prog 264 #[.agg #[.slice a1 nt c1,.slice a2 fs.length c2],.agg #[.int .i64 op,.int .i64 a]] w fun e w'=>e=.returned (.tuple #[.int .i64 (aM fs op a).1,.int .i64 (aM fs op a).2])/\Below w.heap.size w w':=by
 have hbA:Below w.heap.size w ((w.alloc (.cells #[.slice a1 nt c1,.slice a2 fs.length c2] 36)).alloc (.cells #[.int .i64 op,.int .i64 a] 263)):=(b_r.alloc n_l _).alloc (by simp) _;rcases ez op with rfl | rfl | rfl | rfl | rfl | rfl | rfl | rfl | rfl | rfl | rfl | rfl | rfl | rfl | rfl | rfl | rfl | rfl | rfl | rfl | rfl | rfl | h23 | h24 | rfl | rfl | h | h
 case inr.inr.inr.inr.inr.inr.inr.inr.inr.inr.inr.inr.inr.inr.inr.inr.inr.inr.inr.inr.inr.inr.inr.inr.inr.inr.inl=>
  rw[ev (Or.inl h:op<1\/26<op)];go_enter Tryz.func264,Tryz.ntmps264
  go_wp2;go_ret2
  exact⟨rfl,hbA⟩
 case inr.inr.inr.inr.inr.inr.inr.inr.inr.inr.inr.inr.inr.inr.inr.inr.inr.inr.inr.inr.inr.inr.inr.inr.inr.inr.inr=>
  rw[ev (Or.inr h:op<1\/26<op)];go_enter Tryz.func264,Tryz.ntmps264
  go_wp2;go_ret2
  exact⟨rfl,hbA⟩
 case inr.inr.inr.inr.inr.inr.inr.inr.inr.inr.inr.inr.inr.inr.inr.inr.inr.inr.inr.inr.inr.inr.inl=>
  subst h23;by_cases h:0<=a/\a<=6
  ·obtain⟨h0,h1⟩:=h;rw[uses23_in h0 h1];go_enter Tryz.func264,Tryz.ntmps264
   go_wp2;go_ret2
   exact⟨rfl,hbA⟩
  ·rw[uses23_out h];rcases (show a<0\/(0<=a/\6<a) by omega) with h1 | ⟨h1,h2⟩
   all_goals
    clear h;go_enter Tryz.func264,Tryz.ntmps264
    go_wp2;go_ret2
    exact⟨rfl,hbA⟩
 case inr.inr.inr.inr.inr.inr.inr.inr.inr.inr.inr.inr.inr.inr.inr.inr.inr.inr.inr.inr.inr.inr.inr.inl=>
  subst h24;by_cases h:0<=a/\a<fs.length
  ·obtain⟨k,rfl⟩:∃k:Nat,a=k:=⟨a.toNat,by omega⟩;have hk:k<fs.length:=by omega
   rw[uses24_in hk];obtain⟨b,off,ca,cc,rfl,-,d1,d2,d3,d4⟩:=hf k hk;have d1':=cell_later hbA d1;clear d1 d2 d3 d4 h hf;go_enter Tryz.func264,Tryz.ntmps264
   go_wp2;go_ret2
   exact⟨rfl,hbA⟩
  ·rw[uses24_out h];rcases (show a<0\/(0<=a/\(fs.length:Int)<=a) by omega) with h1 | ⟨h1,h2⟩
   all_goals
    clear h;go_enter Tryz.func264,Tryz.ntmps264
    go_wp2;go_ret2
    exact⟨rfl,hbA⟩
 all_goals
  go_enter Tryz.func264,Tryz.ntmps264
  go_wp2;go_ret2
  exact⟨rfl,hbA⟩
theorem sUses_any(a1 a2:Option Addr)(nt c1 c2:Nat)(fs:List Fn)(op a:Int)(w:World)(hn:fs.length<=1048576)(hf:FnsAt w 0 a2 fs) :
  Calls Tryz.prog 197 #[.agg #[.slice a1 nt c1,.slice a2 fs.length c2],.agg #[.int .i64 op,.int .i64 a]] w fun e w'=>e=.returned (.tuple #[.int .i64 (aM fs op a).1,.int .i64 (aM fs op a).2])/\Below w.heap.size w w':=by
 have hbA:Below w.heap.size w ((w.alloc (.cells #[.slice a1 nt c1,.slice a2 fs.length c2] 36)).alloc (.cells #[.int .i64 op,.int .i64 a] 263)):=(b_r.alloc n_l _).alloc (by simp) _;rcases ez op with rfl | rfl | rfl | rfl | rfl | rfl | rfl | rfl | rfl | rfl | rfl | rfl | rfl | rfl | rfl | rfl | rfl | rfl | rfl | rfl | rfl | rfl | h23 | h24 | rfl | rfl | h | h
 case inr.inr.inr.inr.inr.inr.inr.inr.inr.inr.inr.inr.inr.inr.inr.inr.inr.inr.inr.inr.inr.inr.inr.inr.inr.inr.inl=>
  rw[ev (Or.inl h:op<1\/26<op)];go_enter Tryz.func197,Tryz.ntmps197
  go_wp2_with (go_at_call 72;refine (aO _ _ _ _).mono ?_;rintro e w1 ⟨rfl,rfl⟩)
  go_ret2
  exact⟨rfl,hbA⟩
 case inr.inr.inr.inr.inr.inr.inr.inr.inr.inr.inr.inr.inr.inr.inr.inr.inr.inr.inr.inr.inr.inr.inr.inr.inr.inr.inr=>
  rw[ev (Or.inr h:op<1\/26<op)];go_enter Tryz.func197,Tryz.ntmps197
  go_wp2_with (go_at_call 72;refine (aO _ _ _ _).mono ?_;rintro e w1 ⟨rfl,rfl⟩)
  go_ret2
  exact⟨rfl,hbA⟩
 case inr.inr.inr.inr.inr.inr.inr.inr.inr.inr.inr.inr.inr.inr.inr.inr.inr.inr.inr.inr.inr.inr.inl=>
  subst h23;by_cases h:0<=a/\a<=6
  ·obtain⟨h0,h1⟩:=h;rw[uses23_in h0 h1];go_enter Tryz.func197,Tryz.ntmps197
   go_wp2_with (go_at_call 72;refine (aO _ _ _ _).mono ?_;rintro e w1 ⟨rfl,rfl⟩)
   go_ret2
   exact⟨rfl,hbA⟩
  ·rw[uses23_out h];rcases (show a<0\/(0<=a/\6<a) by omega) with h1 | ⟨h1,h2⟩
   all_goals
    clear h;go_enter Tryz.func197,Tryz.ntmps197
    go_wp2_with (go_at_call 72;refine (aO _ _ _ _).mono ?_;rintro e w1 ⟨rfl,rfl⟩)
    go_ret2
    exact⟨rfl,hbA⟩
 case inr.inr.inr.inr.inr.inr.inr.inr.inr.inr.inr.inr.inr.inr.inr.inr.inr.inr.inr.inr.inr.inr.inr.inl=>
  subst h24;by_cases h:0<=a/\a<fs.length
  ·obtain⟨k,rfl⟩:∃k:Nat,a=k:=⟨a.toNat,by omega⟩;have hk:k<fs.length:=by omega
   rw[uses24_in hk];obtain⟨b,off,ca,cc,rfl,-,d1,d2,d3,d4⟩:=hf k hk;have d1':=cell_later hbA d1;have g1:(k:Int)<=(fs.length:Int)-1:=by omega
   clear d1 d2 d3 d4 h hf;go_enter Tryz.func197,Tryz.ntmps197
   go_wp2_with (go_at_call 72;refine (aO _ _ _ _).mono ?_;rintro e w1 ⟨rfl,rfl⟩)
   go_ret2
   exact⟨rfl,hbA⟩
  ·rw[uses24_out h];rcases (show a<0\/(0<=a/\(fs.length:Int)-1<a) by omega) with h1 | ⟨h1,h2⟩
   all_goals
    clear h;go_enter Tryz.func197,Tryz.ntmps197
    go_wp2_with (go_at_call 72;refine (aO _ _ _ _).mono ?_;rintro e w1 ⟨rfl,rfl⟩)
    go_ret2
    exact⟨rfl,hbA⟩
 all_goals
  go_enter Tryz.func197,Tryz.ntmps197
  go_wp2_with (go_at_call 72;refine (aO _ _ _ _).mono ?_;rintro e w1 ⟨rfl,rfl⟩)
  go_ret2
  exact⟨rfl,hbA⟩
end Go.Proofs.YtbjmgmmekmfjhaaGreatDoor
