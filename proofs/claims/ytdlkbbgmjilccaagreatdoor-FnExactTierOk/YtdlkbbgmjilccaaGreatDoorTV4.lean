/- TV4 -/
import Derived.Test.YtdlkbbgmjilccaaGreatDoorTV2
import Derived.Deep.CutRange
import Derived.Deep.Quiet
import Derived.Deep.AppendLies
set_option maxHeartbeats 32000000
set_option maxRecDepth 100000
namespace Go.Proofs.YtdlkbbgmjilccaaGreatDoor
open Go.RowKit
def insD (fs:List Fn)(f p:Int):Option (Int×Int):=if 0<=f/\0<=p then (fs[f.toNat]?).bind (fun g=>g.code[p.toNat]?) else none
theorem dF{fs:List Fn}{f p:Nat}(hf:f<fs.length)(hp:p<fs[f].code.length):insD fs f p=some fs[f].code[p]:=by
 unfold insD;rw[if_pos ⟨Int.natCast_nonneg _,Int.natCast_nonneg _⟩];simp[hf,hp]
theorem dN{fs:List Fn}{f p:Int}{x:Int×Int}(h:insD fs f p=some x):∃(f' p':Nat) (hf:f'<fs.length) (hp:p'<fs[f'].code.length),f=f'/\p=p'/\fs[f'].code[p']=x:=by
 unfold insD at h;split at h
 ·rename_i h0
  obtain⟨g,hg,hx⟩:=Option.bind_eq_some_iff.1 h;obtain⟨hf,rfl⟩:=List.getElem?_eq_some_iff.1 hg;obtain⟨hp,hx⟩:=List.getElem?_eq_some_iff.1 hx;exact⟨f.toNat,p.toNat,hf,hp,by omega,by omega,hx⟩
 ·cases h
theorem insAt_hit(a1 a2:Option Addr)(nt c1 c2:Nat)(fs:List Fn)(f p:Nat)(w:World)(hc:∀f∈fs,f.code.length<=1048576)(hm:FnsAt w 0 a2 fs)(hf:f<fs.length)(hp:p<fs[f].code.length) :
  Calls Tryz.prog 118 #[.agg #[.slice a1 nt c1,.slice a2 fs.length c2],.agg #[.int .i64 f,.int .i64 p]] w fun e w'=>e=.returned (.tuple #[.agg #[.int .i64 fs[f].code[p].1,.int .i64 fs[f].code[p].2],.bool true])/\Below w.heap.size w w':=by
 obtain⟨b,off,ca,cc,rfl,-,d1,d2,d3,hcode⟩:=hm f hf;have hcl:=hc _ (n_l hf);obtain⟨b2,off2,rfl,-,e1,e2⟩:=hcode p hp;clear hcode d1 d2;obtain⟨op,hop⟩:∃op,op=fs[f].code[p].1:=⟨_,rfl⟩;obtain⟨ar,har⟩:∃ar,ar=fs[f].code[p].2:=⟨_,rfl⟩;rw[<-hop] at e1 ⊢;rw[<-har] at e2 ⊢;clear hop har;obtain⟨nc,hnc⟩:∃nc,nc=fs[f].code.length:=⟨_,rfl⟩;rw[<-hnc] at d3 hp hcl;clear hnc;obtain⟨nf,hnf⟩:∃nf,nf=fs.length:=⟨_,rfl⟩;rw[<-hnf] at hf ⊢;clear hnf hc hm;obtain⟨wA,hwA⟩:∃wA,wA=((w.alloc (.cells #[.slice a1 nt c1,.slice (some ⟨b,off,none⟩) nf c2] 42)).alloc (.cells #[.int .i64 f,.int .i64 p] 195)).alloc (.cells #[.int .i64 0,.int .i64 0] 153):=⟨_,rfl⟩;have hB:Below w.heap.size w wA:=by rw[hwA];exact ((gM.alloc nL _).alloc (by simp) _).alloc (by simp;omega) _
 have hM:wA.heap[w.heap.size]?=some (.cells #[.slice a1 nt c1,.slice (some ⟨b,off,none⟩) nf c2] 42 (0,0)):=by rw[hwA];exact al (al (ah _ _ _) _) _
 have hA:wA.heap[w.heap.size+1]?=some (.cells #[.int .i64 f,.int .i64 p] 195 (0,0)):=by rw[hwA];exact al (by simpa using ah (w.alloc (.cells #[.slice a1 nt c1,.slice (some ⟨b,off,none⟩) nf c2] 42)) #[.int .i64 f,.int .i64 p] 195) _
 have hR:wA.heap[w.heap.size+1+1]?=some (.cells #[.int .i64 0,.int .i64 0] 153 (0,0)):=by rw[hwA];simpa using ah ((w.alloc (.cells #[.slice a1 nt c1,.slice (some ⟨b,off,none⟩) nf c2] 42)).alloc (.cells #[.int .i64 f,.int .i64 p] 195)) #[.int .i64 0,.int .i64 0] 153
 have HS:Hid (∀w',Below (w.heap.size+2) wA w'->w'.cell? ⟨w.heap.size,1,none⟩=some (.slice (some ⟨b,off,none⟩) nf c2)/\w'.cell? ⟨w.heap.size+1,0,none⟩=some (.int .i64 f)/\w'.cell? ⟨w.heap.size+1,1,none⟩=some (.int .i64 p)/\w'.cell? ⟨b,off+f*3+2,none⟩=some (.slice (some ⟨b2,off2,none⟩) nc cc)/\w'.cell? ⟨b2,off2+p*2,none⟩=some (.int .i64 op)/\w'.cell? ⟨b2,off2+p*2+1,none⟩=some (.int .i64 ar)):=fun w' q=>by
  have q2:Below w.heap.size w w':=hB.trans (q.mono (by omega));exact⟨by rw[q.cell (by simp),aa hM];rfl,by rw[q.cell (by simp),aa hA];rfl,by rw[q.cell (by simp),aa hA];rfl,cell_later q2 d3,cell_later q2 e1,cell_later q2 e2⟩
 have q0:Below (w.heap.size+2) wA wA:=Below.refl _ _;go_enter Tryz.func118,Tryz.ntmps118
 go_upto_region 1 with fail
 rw[<-hwA];clear hwA;obtain⟨j0,j1,j2,j3,j4,j5⟩:=HS.out wA q0;have g1:¬((f:Int)<0):=by omega
 have g2:¬((nf:Int)<=(f:Int)):=by omega
 have g3:¬((p:Int)<0):=by omega
 have g4:¬((nc:Int)<=(p:Int)):=by omega
 go_big_quiet (fail)
 go_upto_region 3 with fail
 have q:Below (w.heap.size+2) wA (wA.drewN nq).drew:=(aC gM _).drew;have z1:wA.cell? ⟨w.heap.size+1+1,0,none⟩=some (.int .i64 0):=aa hR 0;have z1b:wA.cell? ⟨w.heap.size+1+1,1,none⟩=some (.int .i64 0):=aa hR 1;have z2:=am hR 0;have z3:=am hR 1
 go_region_held3 (fun w'=>w'.cell? ⟨w.heap.size,1,none⟩=some (.slice (some ⟨b,off,none⟩) nf c2)/\w'.cell? ⟨w.heap.size+1,0,none⟩=some (.int .i64 f)/\w'.cell? ⟨w.heap.size+1,1,none⟩=some (.int .i64 p)/\w'.cell? ⟨b,off+f*3+2,none⟩=some (.slice (some ⟨b2,off2,none⟩) nc cc)/\w'.cell? ⟨b2,off2+p*2,none⟩=some (.int .i64 op)/\w'.cell? ⟨b2,off2+p*2+1,none⟩=some (.int .i64 ar))
  (first | exact HS.out _ (aC gM _) | exact HS.out _ (aC gM _).drew | (refine HS.out _ ?_;repeat (first | refine Below.setCell ?_ (by first | omega | (simp;omega) | simp) _ | refine Below.drew ?_ | exact aC gM _)))
  (fail)
 have hR2:(((wA.drewN (nq+1)).setCell ⟨w.heap.size+1+1,0,none⟩ (.int .i64 op)).setCell ⟨w.heap.size+1+1,1,none⟩ (.int .i64 ar)).heap[w.heap.size+1+1]?=some (.cells #[.int .i64 op,.int .i64 ar] 153 (0,0)):=by
  have h1:=ao (i:=0) (ab hR (aC gM (nq+1))) (.int .i64 op);have h2:=ao (i:=1) h1 (.int .i64 ar);simpa using h2
 have r1:=aa hR2;clear z1 z1b z2 z3 hR2;go_wp2;refine bodyPost_ret (v:=.tuple #[.agg #[.int .i64 op,.int .i64 ar],.bool true]) (by simp[results,Tryz.results118,go_sem,r1]) rfl ⟨rfl,?_⟩;exact ((aC hB _).setCell (by simp;omega) _).setCell (by simp;omega) _
theorem insAt_miss(a1 a2:Option Addr)(nt c1 c2:Nat)(fs:List Fn)(f p:Int)(w:World)(hc:∀f∈fs,f.code.length<=1048576)(hm:FnsAt w 0 a2 fs)(hno:insD fs f p=none) :
  Calls Tryz.prog 118 #[.agg #[.slice a1 nt c1,.slice a2 fs.length c2],.agg #[.int .i64 f,.int .i64 p]] w fun e w'=>e=.returned (.tuple #[.agg #[.int .i64 0,.int .i64 0],.bool false])/\Below w.heap.size w w':=by
 obtain⟨nf,hnf⟩:∃nf,nf=fs.length:=⟨_,rfl⟩;obtain⟨wA,hwA⟩:∃wA,wA=((w.alloc (.cells #[.slice a1 nt c1,.slice a2 nf c2] 42)).alloc (.cells #[.int .i64 f,.int .i64 p] 195)).alloc (.cells #[.int .i64 0,.int .i64 0] 153):=⟨_,rfl⟩;have hB:Below w.heap.size w wA:=by rw[hwA];exact ((gM.alloc nL _).alloc (by simp) _).alloc (by simp;omega) _
 have hM:wA.heap[w.heap.size]?=some (.cells #[.slice a1 nt c1,.slice a2 nf c2] 42 (0,0)):=by rw[hwA];exact al (al (ah _ _ _) _) _
 have hA:wA.heap[w.heap.size+1]?=some (.cells #[.int .i64 f,.int .i64 p] 195 (0,0)):=by rw[hwA];exact al (by simpa using ah (w.alloc (.cells #[.slice a1 nt c1,.slice a2 nf c2] 42)) #[.int .i64 f,.int .i64 p] 195) _
 have hR:wA.heap[w.heap.size+1+1]?=some (.cells #[.int .i64 0,.int .i64 0] 153 (0,0)):=by rw[hwA];simpa using ah ((w.alloc (.cells #[.slice a1 nt c1,.slice a2 nf c2] 42)).alloc (.cells #[.int .i64 f,.int .i64 p] 195)) #[.int .i64 0,.int .i64 0] 153
 have j0:=aa hM;have j1:=aa hA;have z1:=aa hR;have z2:=am hR;have HN:Hid (0<=f->0<=p->∀(hf:f.toNat<fs.length),¬p.toNat<fs[f.toNat].code.length):=by
  show _->_
  intro h0 h1 hf hp;have:=dF hf hp;rw[show ((f.toNat:Nat):Int)=f by omega,show ((p.toNat:Nat):Int)=p by omega,hno] at this
  cases this
 clear hno;rw[<-hnf];have HNF:Hid (nf=fs.length):=hnf;clear hnf;by_cases h1:f<0
 ·clear hc hm hM hA hR;go_enter Tryz.func118,Tryz.ntmps118
  go_upto_region 1 with fail
  rw[<-hwA];clear hwA;go_big_quiet (fail)
  go_wp2;refine bodyPost_ret (v:=.tuple #[.agg #[.int .i64 0,.int .i64 0],.bool false]) (by simp[results,Tryz.results118,go_sem,z1]) rfl ⟨rfl,?_⟩;exact ((aC hB _).setCell (by simp;omega) _).setCell (by simp;omega) _
 obtain⟨f,rfl⟩:∃f':Nat,f=f':=⟨f.toNat,by omega⟩;by_cases h2:f<nf
 case neg=>
  clear hc hm hM hA hR;go_enter Tryz.func118,Tryz.ntmps118
  go_upto_region 1 with fail
  rw[<-hwA];clear hwA;have g1:¬((f:Int)<0):=by omega
  have g2:(nf:Int)<=(f:Int):=by omega
  go_big_quiet (fail)
  go_wp2;refine bodyPost_ret (v:=.tuple #[.agg #[.int .i64 0,.int .i64 0],.bool false]) (by simp[results,Tryz.results118,go_sem,z1]) rfl ⟨rfl,?_⟩;exact ((aC hB _).setCell (by simp;omega) _).setCell (by simp;omega) _
 by_cases h3:p<0
 ·clear hc hm hM hA hR;go_enter Tryz.func118,Tryz.ntmps118
  go_upto_region 1 with fail
  rw[<-hwA];clear hwA;have g1:¬((f:Int)<0):=by omega
  have g2:¬(nf:Int)<=(f:Int):=by omega
  go_big_quiet (fail)
  go_wp2;refine bodyPost_ret (v:=.tuple #[.agg #[.int .i64 0,.int .i64 0],.bool false]) (by simp[results,Tryz.results118,go_sem,z1]) rfl ⟨rfl,?_⟩;exact ((aC hB _).setCell (by simp;omega) _).setCell (by simp;omega) _
 obtain⟨p,rfl⟩:∃p':Nat,p=p':=⟨p.toNat,by omega⟩;have h2':f<fs.length:=by rw[<-HNF.out];exact h2
 have h4:=HN.out (by omega) (by omega) (by simpa using h2');simp only[Int.toNat_natCast] at h4
 obtain⟨b,off,ca,cc,rfl,-,d1,d2,d3,hcode⟩:=hm f h2';have hcl:=hc _ (n_l h2');have d3':=cell_later hB d3;clear d1 d2 d3 hcode hc hm hM hA hR HN;obtain⟨nc,hnc⟩:∃nc,nc=fs[f].code.length:=⟨_,rfl⟩;rw[<-hnc] at d3' h4 hcl;clear hnc;go_enter Tryz.func118,Tryz.ntmps118
 go_upto_region 1 with fail
 rw[<-hwA];clear hwA;have g1:¬((f:Int)<0):=by omega
 have g2:¬(nf:Int)<=(f:Int):=by omega
 have g3:¬((p:Int)<0):=by omega
 have g4:(nc:Int)<=(p:Int):=by omega
 go_big_quiet (fail)
 go_wp2;refine bodyPost_ret (v:=.tuple #[.agg #[.int .i64 0,.int .i64 0],.bool false]) (by simp[results,Tryz.results118,go_sem,z1]) rfl ⟨rfl,?_⟩;exact ((aC hB _).setCell (by simp;omega) _).setCell (by simp;omega) _
theorem dG(a1 a2:Option Addr)(nt c1 c2:Nat)(fs:List Fn)(f p:Int)(w:World)(hc:∀f∈fs,f.code.length<=1048576)(hm:FnsAt w 0 a2 fs) :
  Calls Tryz.prog 118 #[.agg #[.slice a1 nt c1,.slice a2 fs.length c2],.agg #[.int .i64 f,.int .i64 p]] w fun e w'=>e=.returned (.tuple #[.agg #[.int .i64 ((insD fs f p).getD (0,0)).1,.int .i64 ((insD fs f p).getD (0,0)).2],.bool (insD fs f p).isSome])/\Below w.heap.size w w':=by
 cases h:insD fs f p with
 | none=>exact insAt_miss a1 a2 nt c1 c2 fs f p w hc hm h
 | some x=>
  obtain⟨f',p',hf,hp,rfl,rfl,rfl⟩:=dN h;exact insAt_hit a1 a2 nt c1 c2 fs f' p' w hc hm hf hp
noncomputable section
open Classical
noncomputable def pB (P:Prop):Bool:=decide P
end
theorem ay{P:Prop}(h:P):pB P=true:=by simpa[pB] using h
theorem aw{P:Prop}(h:¬P):pB P=false:=by simpa[pB] using h
theorem bx{b:Bool}{P:Prop}(h:b=true↔P):Ending.returned (.bool b)=.returned (.bool (pB P)):=by
 by_cases hp:P
 ·rw[ay hp,h.2 hp]
 ·rw[aw hp]
  cases b
  ·rfl
  ·exact absurd (h.1 rfl) hp
def OpP (n:Nat)(op seen target:Int):Prop:=(op=23/\((seen=1/\0<=target/\target<n)\/(seen=2/\target=0)))\/(11<=op/\op<=14/\1<=seen/\seen<=3/\target=0)
def cM (fs:List Fn)(s:Si):Prop:=0<=s.f/\0<=s.pc/\∃(hf:s.f.toNat<fs.length) (hp:s.pc.toNat<fs[s.f.toNat].code.length),OpP fs.length (fs[s.f.toNat].code[s.pc.toNat].1) s.seen s.target
theorem site_iff{fs:List Fn}{f p:Nat}{sn tg:Int}(hf:f<fs.length)(hp:p<fs[f].code.length):cM fs ⟨f,p,sn,tg⟩↔OpP fs.length (fs[f].code[p].1) sn tg:=
 ⟨fun h=>h.2.2.2.2,fun h=>⟨Int.natCast_nonneg _,Int.natCast_nonneg _,hf,hp,h⟩⟩
theorem bY{op:Int}(h:11<=op/\op<=14)(w:World):Calls Tryz.prog 119 #[.int .i64 op] w fun e w'=>e=.returned (.bool true)/\w'=w:=by
 have:=cX op w;rwa [decide_eq_true h] at this
theorem numberOp_no{op:Int}(h:¬(11<=op/\op<=14))(w:World):Calls Tryz.prog 119 #[.int .i64 op] w fun e w'=>e=.returned (.bool false)/\w'=w:=by
 have:=cX op w;rwa [decide_eq_false h] at this
theorem aY(w:World)(C:Array Value)(t:TypeId):(w.alloc (.cells C t)).drew.heap[w.heap.size]?=some (.cells C t (0,0)):=ab (ah w C t) gM.drew
theorem stored2{w:World}{g:Nat}{a b x y:Value}{t:TypeId}(h:w.heap[g]?=some (.cells #[a,b] t (0,0))):((w.setCell ⟨g,0,none⟩ x).setCell ⟨g,1,none⟩ y).heap[g]?=some (.cells #[x,y] t (0,0)):=by
 simpa using ao (i:=1) (ao (i:=0) h x) y
theorem ey{w:World}{g:Nat}{a b c d x y z u:Value}{t:TypeId}(h:w.heap[g]?=some (.cells #[a,b,c,d] t (0,0))):((((w.setCell ⟨g,0,none⟩ x).setCell ⟨g,1,none⟩ y).setCell ⟨g,2,none⟩ z).setCell ⟨g,3,none⟩ u).heap[g]?=some (.cells #[x,y,z,u] t (0,0)):=by
 simpa using ao (i:=3) (ao (i:=2) (ao (i:=1) (ao (i:=0) h x) y) z) u
theorem site_ins(fs:List Fn)(s:Si):cM fs s↔(insD fs s.f s.pc).isSome=true/\OpP fs.length ((insD fs s.f s.pc).getD (0,0)).1 s.seen s.target:=by
 constructor
 ·rintro⟨h0,h1,hf,hp,hop⟩;have:=dF hf hp;rw[show ((s.f.toNat:Nat):Int)=s.f by omega,show ((s.pc.toNat:Nat):Int)=s.pc by omega] at this
  rw[this];exact⟨rfl,hop⟩
 ·rintro⟨h0,h1⟩;obtain⟨x,hx⟩:=Option.isSome_iff_exists.1 h0;rw[hx] at h1;obtain⟨f,p,hf,hp,ef,ep,rfl⟩:=dN hx;refine⟨by omega,by omega,by rw[ef];exact hf,by simp only[ef,ep,Int.toNat_natCast];exact hp,?_⟩;simp only[ef,ep,Int.toNat_natCast]
  exact h1
theorem siteOk_any(a1 a2:Option Addr)(nt c1 c2:Nat)(fs:List Fn)(s:Si)(w:World)(hc:∀f∈fs,f.code.length<=1048576)(hm:FnsAt w 0 a2 fs) :
  Calls Tryz.prog 111 #[.agg #[.slice a1 nt c1,.slice a2 fs.length c2],.agg #[.int .i64 s.f,.int .i64 s.pc,.int .i64 s.seen,.int .i64 s.target]] w fun e w'=>e=.returned (.bool (pB (cM fs s)))/\Below w.heap.size w w':=by
 have HI:Hid (cM fs s↔(insD fs s.f s.pc).isSome=true/\OpP fs.length ((insD fs s.f s.pc).getD (0,0)).1 s.seen s.target):=site_ins fs s;obtain⟨r,hr⟩:∃r,r=pB (cM fs s):=⟨_,rfl⟩;rw[<-hr];have HR:Hid (r=pB (cM fs s)):=hr;clear hr;obtain⟨sf,sp,sn,tg⟩:=s;dsimp only at *
 have hI:∀w',Below w.heap.size w w'->_:=fun w' hb=>dG a1 a2 nt c1 c2 fs sf sp w' hc (hm.mono hb)
 have HC:=hI;clear hI;obtain⟨op,hop⟩:∃op,op=((insD fs sf sp).getD (0,0)).1:=⟨_,rfl⟩;obtain⟨ar,har⟩:∃ar,ar=((insD fs sf sp).getD (0,0)).2:=⟨_,rfl⟩;obtain⟨fd,hfd⟩:∃fd,fd=(insD fs sf sp).isSome:=⟨_,rfl⟩;simp only[<-hop,<-har,<-hfd] at HC
 rw[<-hop,<-hfd] at HI;clear hop har hfd;obtain⟨w2,hw2⟩:∃w2,w2=(w.alloc (.cells #[.slice a1 nt c1,.slice a2 fs.length c2] 42)).alloc (.cells #[.int .i64 sf,.int .i64 sp,.int .i64 sn,.int .i64 tg] 113):=⟨_,rfl⟩;have hB:Below w.heap.size w w2:=by rw[hw2];exact (gM.alloc nL _).alloc (by simp) _
 have hX:w2.heap[w.heap.size]?=some (.cells #[.slice a1 nt c1,.slice a2 fs.length c2] 42 (0,0)):=by rw[hw2];exact al (ah _ _ _) _
 have hY:w2.heap[w.heap.size+1]?=some (.cells #[.int .i64 sf,.int .i64 sp,.int .i64 sn,.int .i64 tg] 113 (0,0)):=by rw[hw2];simpa using ah (w.alloc (.cells #[.slice a1 nt c1,.slice a2 fs.length c2] 42)) #[.int .i64 sf,.int .i64 sp,.int .i64 sn,.int .i64 tg] 113
 have HZ:Hid (w.heap.size+2<=w2.heap.size):=by rw[hw2];show _<=_;simp
 have HS:Hid (∀w',Below (w.heap.size+2) w2 w'->w'.cell? ⟨w.heap.size,0,none⟩=some (.slice a1 nt c1)/\w'.cell? ⟨w.heap.size,1,none⟩=some (.slice a2 fs.length c2)/\w'.cell? ⟨w.heap.size+1,0,none⟩=some (.int .i64 sf)/\w'.cell? ⟨w.heap.size+1,1,none⟩=some (.int .i64 sp)/\w'.cell? ⟨w.heap.size+1,2,none⟩=some (.int .i64 sn)/\w'.cell? ⟨w.heap.size+1,3,none⟩=some (.int .i64 tg)):=fun w' hb=>
  ⟨by rw[hb.cell (by simp),aa hX];rfl,by rw[hb.cell (by simp),aa hX];rfl,by rw[hb.cell (by simp),aa hY];rfl,by rw[hb.cell (by simp),aa hY];rfl,by rw[hb.cell (by simp),aa hY];rfl,by rw[hb.cell (by simp),aa hY];rfl⟩
 obtain⟨j0,j1,j2,j3,j4,j5⟩:=HS.out w2 gM;have q:Below w2.heap.size w2 w2.drew:=gM.drew;have HB:Hid (Below w.heap.size w w2):=hB;have HCH:Hid (∀w',Below w.heap.size w w'->Calls Tryz.prog 118 #[.agg #[.slice a1 nt c1,.slice a2 fs.length c2],.agg #[.int .i64 sf,.int .i64 sp]] w' fun e w''=>e=.returned (.tuple #[.agg #[.int .i64 op,.int .i64 ar],.bool fd])/\Below w'.heap.size w' w''):=HC;clear HC hB hX hY hc hm;go_enter Tryz.func111,Tryz.ntmps111
 go_upto_region 1 with fail
 rw[<-hw2];clear hw2;go_cut [5,6] from 7 to 14 (fun s5 s6 wx=>∃g,s5=.pointer (some ⟨g,0,none⟩)/\s6=.bool fd/\wx.heap[g]?=some (.cells #[.int .i64 op,.int .i64 ar] 153 (0,0))/\Below w2.heap.size w2 wx)
 case first=>
  go_region_held3 (fun w'=>w'.cell? ⟨w.heap.size,0,none⟩=some (.slice a1 nt c1)/\w'.cell? ⟨w.heap.size,1,none⟩=some (.slice a2 fs.length c2)/\w'.cell? ⟨w.heap.size+1,0,none⟩=some (.int .i64 sf)/\w'.cell? ⟨w.heap.size+1,1,none⟩=some (.int .i64 sp)/\w'.cell? ⟨w.heap.size+1,2,none⟩=some (.int .i64 sn)/\w'.cell? ⟨w.heap.size+1,3,none⟩=some (.int .i64 tg))
   (first
    | exact⟨j0,j1,j2,j3,j4,j5⟩
    | exact HS.out _ (q.mono HZ.out)
    | exact HS.out _ ((q.mono HZ.out).alloc (Nat.le_trans HZ.out q.size) _)
    | exact HS.out _ (((q.mono HZ.out).setCell (Nat.le_trans HZ.out hg) _).setCell (Nat.le_trans HZ.out hg) _)
    | exact HS.out _ ((((q.mono HZ.out).alloc (Nat.le_trans HZ.out q.size) _).setCell (Nat.le_trans HZ.out q.size) _).setCell (Nat.le_trans HZ.out q.size) _))
   (first
    | (go_at_call 113;refine (dz _ _ _ _ _).mono ?_;rintro e wa ⟨rfl,kd⟩;(first | (have hk:=ab hk kd;have hc:=aa hk;have hf:=am hk) | (have hk:=ab (aY _ _ _) kd;have hg:=Nat.le_refl w2.heap.size;have hc:=aa hk;have hf:=am hk) | (have hk:=ab (ah _ _ _) kd;have hg:=q.size;have hc:=aa hk;have hf:=am hk) | skip);(first | (have q:=q.trans (kd.mono q.size)) | (have q:=(q.alloc q.size _).trans (kd.mono (by have:=q.size;simp<;>omega)))))
    | (go_at_call 118;refine (HCH.out _ (by first | exact HB.out.trans (q.mono HB.out.size) | exact HB.out.trans ((q.alloc q.size _).mono HB.out.size))).mono ?_;rintro e wb ⟨rfl,kd⟩;(first | (have hk:=ab hk kd;have hc:=aa hk;have hf:=am hk) | (have hk:=ab (aY _ _ _) kd;have hg:=Nat.le_refl w2.heap.size;have hc:=aa hk;have hf:=am hk) | (have hk:=ab (ah _ _ _) kd;have hg:=q.size;have hc:=aa hk;have hf:=am hk) | skip);(first | (have q:=q.trans (kd.mono q.size)) | (have q:=(q.alloc q.size _).trans (kd.mono (by have:=q.size;simp<;>omega))))))
  all_goals
   go_wp2_with fail
   go_meet
   case rel=>
    first
     | exact⟨_,rfl,rfl,stored2 hk,(q.setCell hg _).setCell hg _⟩
     | exact⟨_,rfl,rfl,ah _ _ _,q.alloc q.size _⟩
 case rest=>
  obtain⟨g,rfl,rfl,hG,hq⟩:=hcut;have HB2:Hid (Below w.heap.size w wc):=HB.out.trans (hq.mono HB.out.size);have c0:=aa hG;clear j0 j1 j2 j3 j4 j5 q;obtain⟨j0,j1,j2,j3,j4,j5⟩:=HS.out wc (hq.mono HZ.out);clear HS HZ hq HB hG HCH
  cases fd
  case false=>
   go_wp2;go_ret
   exact⟨aj (by rw[HR.out];exact (aw (fun h=>by have:=(HI.out.1 h).1;cases this)).symm),HB2.out⟩
  have HO:Hid (pB (cM fs ⟨sf,sp,sn,tg⟩)=true↔OpP fs.length op sn tg):=by
   show _↔_
   by_cases h:OpP fs.length op sn tg
   ·rw[ay (HI.out.2 ⟨rfl,h⟩)];simp[h]
   ·rw[aw (fun h'=>h (HI.out.1 h').2)];simp[h]
  clear HI;have YES:OpP fs.length op sn tg->r=true:=fun h=>by rw[HR.out];exact HO.out.2 h
  have NO:¬OpP fs.length op sn tg->r=false:=fun h=>by rw[HR.out];cases e:pB (cM fs ⟨sf,sp,sn,tg⟩) with | false=>rfl | true=>exact absurd (HO.out.1 e) h
  have HY:Hid (OpP fs.length op sn tg->r=true):=YES;have HN:Hid (¬OpP fs.length op sn tg->r=false):=NO;clear YES NO HO HR;by_cases h5:op=23
  ·subst h5;by_cases h6:sn=1
   ·subst h6;by_cases h7:0<=tg
    ·by_cases h8:tg<fs.length
     ·obtain rfl:=HY.out (.inl ⟨rfl,.inl ⟨rfl,h7,h8⟩⟩);go_wp2;go_ret
      exact⟨by first | rfl | exact aj (by first | rfl | (simp;omega) | (symm;simp;omega)),HB2.out⟩
     ·obtain rfl:=HN.out (fun h=>by unfold OpP at h;omega);go_wp2;go_ret
      exact⟨by first | rfl | exact aj (by first | rfl | (simp;omega) | (symm;simp;omega)),HB2.out⟩
    ·obtain rfl:=HN.out (fun h=>by unfold OpP at h;omega);go_wp2;go_ret
     exact⟨by first | rfl | exact aj (by first | rfl | (simp;omega) | (symm;simp;omega)),HB2.out⟩
   ·by_cases h7:sn=2
    ·subst h7;by_cases h8:tg=0
     ·subst h8;obtain rfl:=HY.out (.inl ⟨rfl,.inr ⟨rfl,rfl⟩⟩);go_wp2;go_ret
      exact⟨by first | rfl | exact aj (by first | rfl | (simp;omega) | (symm;simp;omega)),HB2.out⟩
     ·obtain rfl:=HN.out (fun h=>by unfold OpP at h;omega);go_wp2;go_ret
      exact⟨by first | rfl | exact aj (by first | rfl | (simp;omega) | (symm;simp;omega)),HB2.out⟩
    ·obtain rfl:=HN.out (fun h=>by unfold OpP at h;omega);go_wp2;go_ret
     exact⟨by first | rfl | exact aj (by first | rfl | (simp;omega) | (symm;simp;omega)),HB2.out⟩
  ·by_cases h6:11<=op/\op<=14
   ·have H6:Hid (11<=op/\op<=14):=h6;by_cases h7:1<=sn
    ·by_cases h8:sn<=3
     ·by_cases h9:tg=0
      ·subst h9;obtain rfl:=HY.out (.inr ⟨h6.1,h6.2,h7,h8,rfl⟩);clear h6;go_wp2_with (go_at_call 119;refine (bY H6.out _).mono ?_;rintro e w' ⟨rfl,rfl⟩)
       go_ret
       exact⟨by first | rfl | exact aj (by first | rfl | (simp;omega) | (symm;simp;omega)),HB2.out⟩
      ·obtain rfl:=HN.out (fun h=>by unfold OpP at h;omega);clear h6;go_wp2_with (go_at_call 119;refine (bY H6.out _).mono ?_;rintro e w' ⟨rfl,rfl⟩)
       go_ret
       exact⟨by first | rfl | exact aj (by first | rfl | (simp;omega) | (symm;simp;omega)),HB2.out⟩
     ·obtain rfl:=HN.out (fun h=>by unfold OpP at h;omega);clear h6;go_wp2_with (go_at_call 119;refine (bY H6.out _).mono ?_;rintro e w' ⟨rfl,rfl⟩)
      go_ret
      exact⟨by first | rfl | exact aj (by first | rfl | (simp;omega) | (symm;simp;omega)),HB2.out⟩
    ·obtain rfl:=HN.out (fun h=>by unfold OpP at h;omega);clear h6;go_wp2_with (go_at_call 119;refine (bY H6.out _).mono ?_;rintro e w' ⟨rfl,rfl⟩)
     go_ret
     exact⟨by first | rfl | exact aj (by first | rfl | (simp;omega) | (symm;simp;omega)),HB2.out⟩
   ·have H6:Hid (¬(11<=op/\op<=14)):=h6;obtain rfl:=HN.out (fun h=>by unfold OpP at h;omega);clear h6;go_wp2_with (go_at_call 119;refine (numberOp_no H6.out _).mono ?_;rintro e w' ⟨rfl,rfl⟩)
    go_ret
    exact⟨by first | rfl | exact aj (by first | rfl | (simp;omega) | (symm;simp;omega)),HB2.out⟩
section
variable {P:Program} {ops:Array Oper} {C:World->Prop} {Q:Act->Prop} {a:Act} {o:Oper} {rest:List Oper}
theorem ae{v:Value}(hw:Region.wanted o (yielded ops a.tmps)=true)(hv:∀w,C w->Oper.quietUpon P C w v ((execOp a.eval o).run P w))(h:wpQuiet P ops C Q rest (a.put o.dst v)):wpQuiet P ops C Q (o :: rest) a:=by
 unfold wpQuiet;rw[if_pos hw];exact⟨v,hv,h⟩
end
theorem au{P:Program}{id:Nat}{Q:Exit->Act->World->Prop}{a:Act}{w:World}{l:List Oper}(hm:P.follows .mixedOrders=true)(hB:Region.lexB .any l.toArray=true)
  (h:wpQuiet P l.toArray (fun w'=>Below w.heap.size w w') (fun a'=>∀w',Below w.heap.size w w'->Q .normal a' w') l a):(Code.region id l.toArray true).wp P Q a w:=
 wp_region_quiet (C:=fun w'=>Below w.heap.size w w') hm hB gM.drew (by simpa using h)
def AscI (ss:List Si):Prop:=∀i (h:i<ss.length),0<i->a5 ss[i-1] ss[i]
theorem dy(f p s t:Int)(w:World) :
  Calls Tryz.prog 222 #[.agg #[.int .i64 f,.int .i64 p,.int .i64 s,.int .i64 t]] w fun e w'=>e=.returned (.agg #[.int .i64 f,.int .i64 p])/\Below w.heap.size w w':=by
 go_enter Tryz.func222,Tryz.ntmps222
 go_wp2;refine bodyPost_ret (v:=.agg #[.int .i64 f,.int .i64 p]) (by simp[results,Tryz.results222,go_sem]) rfl ⟨rfl,?_⟩;repeat (first | refine Below.setCell ?_ (by first | omega | (simp;omega) | simp) _ | refine Below.alloc ?_ (by first | omega | (simp;omega) | simp) _ | exact Below.refl _ _)
theorem ascSpecs_any(a:Option Addr)(ss:List Si)(cap:Nat)(w:World)(hn:ss.length<=1048576)(hs:aS w 0 a ss) :
  Calls Tryz.prog 223 #[.slice a ss.length cap,.func (.func 222) #[] #[]] w fun e w'=>e=.returned (.bool (pB (AscI ss)))/\Below w.heap.size w w':=by
 go_enter Tryz.func223,Tryz.ntmps223
 go_wp2;go_loopw [5] (fun i wr=>∃(k:Nat),1<=k/\(k<=ss.length\/k=1)/\i=.int .i64 k/\Hid (∀j (hj:j<ss.length),j<k->0<j->a5 ss[j-1] ss[j])/\Below w.heap.size w wr) (fun i _=>ss.length+1-(intOf i).toNat)
 case atStart=>exact⟨1,by omega,by omega,rfl,fun j _ h1 h2=>absurd h1 (by omega),Below.refl _ _⟩
 case round=>
  obtain⟨k,hk1,hk,rfl,hdone,hb⟩:=hrel;by_cases hlt:k<ss.length
  case neg=>
   have HD:Hid (AscI ss):=fun j hj h0=>hdone.out j hj (by omega) h0
   clear hdone;go_wp2;go_ret
   exact⟨aj (ay HD.out).symm,hb⟩
  case pos=>
   obtain⟨j,rfl⟩:∃j,k=j+1:=⟨k-1,by omega⟩;have hj1:j<ss.length:=by omega
   obtain⟨b,off,rfl,-,d1,d2,d3,d4⟩:=hs (j+1) hlt;obtain⟨b',off',hbe,-,e1,e2,e3,e4⟩:=hs j hj1
   cases hbe
   have HF:Hid (∀w',Below wr.heap.size wr w'->w'.cell? ⟨b,off+(j+1)*4,none⟩=some (.int .i64 ss[j+1].f)/\w'.cell? ⟨b,off+(j+1)*4+1,none⟩=some (.int .i64 ss[j+1].pc)/\w'.cell? ⟨b,off+(j+1)*4+2,none⟩=some (.int .i64 ss[j+1].seen)/\w'.cell? ⟨b,off+(j+1)*4+3,none⟩=some (.int .i64 ss[j+1].target)):=fun w' q=>
    ⟨cell_later q (cell_later hb d1),cell_later q (cell_later hb d2),cell_later q (cell_later hb d3),cell_later q (cell_later hb d4)⟩
   have HE:Hid (∀w',Below wr.heap.size wr w'->w'.cell? ⟨b,off+j*4,none⟩=some (.int .i64 ss[j].f)/\w'.cell? ⟨b,off+j*4+1,none⟩=some (.int .i64 ss[j].pc)/\w'.cell? ⟨b,off+j*4+2,none⟩=some (.int .i64 ss[j].seen)/\w'.cell? ⟨b,off+j*4+3,none⟩=some (.int .i64 ss[j].target)):=fun w' q=>
    ⟨cell_later q (cell_later hb e1),cell_later q (cell_later hb e2),cell_later q (cell_later hb e3),cell_later q (cell_later hb e4)⟩
   clear d1 d2 d3 d4 e1 e2 e3 e4 hs;have hC0:0<=orI (cmpI ss[j].f ss[j+1].f) (cmpI ss[j].pc ss[j+1].pc)↔¬a5 ss[j] ss[j+1]:=cmp_less ss[j] ss[j+1];obtain⟨cr,hcr⟩:∃cr,cr=orI (cmpI ss[j].f ss[j+1].f) (cmpI ss[j].pc ss[j+1].pc):=⟨_,rfl⟩;rw[<-hcr] at hC0;have HC0:Hid (0<=cr↔¬a5 ss[j] ss[j+1]):=hC0;have HCR:Hid (cr=orI (cmpI ss[j].f ss[j+1].f) (cmpI ss[j].pc ss[j+1].pc)):=hcr;clear hC0 hcr;go_upto_region 4 with fail
   refine au (by kernel_rfl) (by kernel_rfl) ?_
   iterate 3
    refine ae (v:=?_) (by kernel_rfl) ?_ ?_;rotate_left
    ·intro w' hC;obtain⟨j0,j1,j2,j3⟩:=HE.out w' hC;go_simp;try with_reducible rfl
    try simp only[Act.put,sAr,sZe,sSu]
   refine ae (v:=.int .i64 (j:Int)) (by kernel_rfl) ?_ ?_
   ·intro w' hC;go_simp
    (rw[IntKind.wrap_i64];omega)
   try simp only[Act.put,sAr,sZe,sSu]
   have hj2:(0:Int)<=(j:Int):=by omega
   have hj3:(j:Int)<(ss.length:Int):=by omega
   have hj4:(0:Int)<=(j:Int)+1:=by omega
   have hj5:(j:Int)+1<(ss.length:Int):=by omega
   have hj6:((j:Int)+1).toNat=j+1:=by omega
   iterate 2
    refine ae (v:=?_) (by kernel_rfl) ?_ ?_;rotate_left
    ·intro w' hC;obtain⟨j0,j1,j2,j3⟩:=HE.out w' hC;go_simp;try with_reducible rfl
    try simp only[Act.put,sAr,sZe,sSu]
   refine ae (v:=.agg #[.int .i64 ss[j].f,.int .i64 ss[j].pc]) (by kernel_rfl) ?_ ?_
   ·intro w' hC;go_simp;refine (dy _ _ _ _ w').mono ?_;rintro e w'' ⟨rfl,hb2⟩;exact⟨rfl,hC.trans (hb2.mono hC.size)⟩
   try simp only[Act.put,sAr,sZe,sSu]
   iterate 5
    refine ae (v:=?_) (by kernel_rfl) ?_ ?_;rotate_left
    ·intro w' hC;obtain⟨j0,j1,j2,j3⟩:=HF.out w' hC;go_simp;try with_reducible rfl
    try simp only[Act.put,sAr,sZe,sSu]
   refine ae (v:=.agg #[.int .i64 ss[j+1].f,.int .i64 ss[j+1].pc]) (by kernel_rfl) ?_ ?_
   ·intro w' hC;go_simp;refine (dy _ _ _ _ w').mono ?_;rintro e w'' ⟨rfl,hb2⟩;exact⟨rfl,hC.trans (hb2.mono hC.size)⟩
   try simp only[Act.put,sAr,sZe,sSu]
   refine ae (v:=.int .i64 cr) (by kernel_rfl) ?_ ?_
   ·intro w' hC;go_simp;refine (comparePlaces_any _ _ _ _ w').mono ?_;rintro e w'' ⟨rfl,hb2⟩;exact⟨by rw[HCR.out],hC.trans (hb2.mono hC.size)⟩
   try simp only[Act.put,sAr,sZe,sSu]
   by_cases h0:0<=cr
   ·have HX:Hid (¬a5 ss[j] ss[j+1]):=HC0.out.1 h0
    iterate 1
     refine ae (v:=?_) (by kernel_rfl) ?_ ?_;rotate_left
     ·intro w' hC;go_simp;try with_reducible rfl
     try simp only[Act.put,sAr,sZe,sSu]
    refine wpQuiet_nil ?_;intro w2 q2;go_wp2;go_ret
    exact⟨aj (aw (fun h=>HX.out (by simpa using h (j+1) hlt (by omega)))).symm,hb.trans (q2.mono hb.size)⟩
   ·have HX:Hid (a5 ss[j] ss[j+1]):=Classical.byContradiction (fun h=>h0 (HC0.out.2 h))
    iterate 1
     refine ae (v:=?_) (by kernel_rfl) ?_ ?_;rotate_left
     ·intro w' hC;go_simp;try with_reducible rfl
     try simp only[Act.put,sAr,sZe,sSu]
    refine wpQuiet_nil ?_;intro w2 q2;go_wp2;go_roundw
    case rel=>
     refine⟨j+1+1,by omega,by omega,by go_num,?_,hb.trans (q2.mono hb.size)⟩;intro i hi h1 h2;by_cases e:i=j+1
     ·subst e;exact HX.out
     ·exact hdone.out i hi (by omega) h2
    case measure=>simp[intOf];omega
theorem ascSites_any(a:Option Addr)(ss:List Si)(cap:Nat)(w:World)(hn:ss.length<=1048576)(hs:aS w 0 a ss) :
  Calls Tryz.prog 112 #[.slice a ss.length cap,.func (.func 113) #[] #[]] w fun e w'=>e=.returned (.bool (pB (AscI ss)))/\Below w.heap.size w w':=by
 go_enter Tryz.func112,Tryz.ntmps112
 go_wp2;go_loopw [5] (fun i wr=>∃(k:Nat),1<=k/\(k<=ss.length\/k=1)/\i=.int .i64 k/\Hid (∀j (hj:j<ss.length),j<k->0<j->a5 ss[j-1] ss[j])/\Below w.heap.size w wr) (fun i _=>ss.length+1-(intOf i).toNat)
 case atStart=>exact⟨1,by omega,by omega,rfl,fun j _ h1 h2=>absurd h1 (by omega),Below.refl _ _⟩
 case round=>
  obtain⟨k,hk1,hk,rfl,hdone,hb⟩:=hrel;by_cases hlt:k<ss.length
  case neg=>
   have HD:Hid (AscI ss):=fun j hj h0=>hdone.out j hj (by omega) h0
   clear hdone;go_wp2;go_ret
   exact⟨aj (ay HD.out).symm,hb⟩
  case pos=>
   obtain⟨j,rfl⟩:∃j,k=j+1:=⟨k-1,by omega⟩;have hj1:j<ss.length:=by omega
   obtain⟨b,off,rfl,-,d1,d2,d3,d4⟩:=hs (j+1) hlt;obtain⟨b',off',hbe,-,e1,e2,e3,e4⟩:=hs j hj1
   cases hbe
   have HF:Hid (∀w',Below wr.heap.size wr w'->w'.cell? ⟨b,off+(j+1)*4,none⟩=some (.int .i64 ss[j+1].f)/\w'.cell? ⟨b,off+(j+1)*4+1,none⟩=some (.int .i64 ss[j+1].pc)/\w'.cell? ⟨b,off+(j+1)*4+2,none⟩=some (.int .i64 ss[j+1].seen)/\w'.cell? ⟨b,off+(j+1)*4+3,none⟩=some (.int .i64 ss[j+1].target)):=fun w' q=>
    ⟨cell_later q (cell_later hb d1),cell_later q (cell_later hb d2),cell_later q (cell_later hb d3),cell_later q (cell_later hb d4)⟩
   have HE:Hid (∀w',Below wr.heap.size wr w'->w'.cell? ⟨b,off+j*4,none⟩=some (.int .i64 ss[j].f)/\w'.cell? ⟨b,off+j*4+1,none⟩=some (.int .i64 ss[j].pc)/\w'.cell? ⟨b,off+j*4+2,none⟩=some (.int .i64 ss[j].seen)/\w'.cell? ⟨b,off+j*4+3,none⟩=some (.int .i64 ss[j].target)):=fun w' q=>
    ⟨cell_later q (cell_later hb e1),cell_later q (cell_later hb e2),cell_later q (cell_later hb e3),cell_later q (cell_later hb e4)⟩
   clear d1 d2 d3 d4 e1 e2 e3 e4 hs;have hC0:0<=orI (cmpI ss[j].f ss[j+1].f) (cmpI ss[j].pc ss[j+1].pc)↔¬a5 ss[j] ss[j+1]:=cmp_less ss[j] ss[j+1];obtain⟨cr,hcr⟩:∃cr,cr=orI (cmpI ss[j].f ss[j+1].f) (cmpI ss[j].pc ss[j+1].pc):=⟨_,rfl⟩;rw[<-hcr] at hC0;have HC0:Hid (0<=cr↔¬a5 ss[j] ss[j+1]):=hC0;have HCR:Hid (cr=orI (cmpI ss[j].f ss[j+1].f) (cmpI ss[j].pc ss[j+1].pc)):=hcr;clear hC0 hcr;go_upto_region 4 with fail
   refine au (by kernel_rfl) (by kernel_rfl) ?_
   iterate 3
    refine ae (v:=?_) (by kernel_rfl) ?_ ?_;rotate_left
    ·intro w' hC;obtain⟨j0,j1,j2,j3⟩:=HE.out w' hC;go_simp;try with_reducible rfl
    try simp only[Act.put,sAr,sZe,sSu]
   refine ae (v:=.int .i64 (j:Int)) (by kernel_rfl) ?_ ?_
   ·intro w' hC;go_simp
    (rw[IntKind.wrap_i64];omega)
   try simp only[Act.put,sAr,sZe,sSu]
   have hj2:(0:Int)<=(j:Int):=by omega
   have hj3:(j:Int)<(ss.length:Int):=by omega
   have hj4:(0:Int)<=(j:Int)+1:=by omega
   have hj5:(j:Int)+1<(ss.length:Int):=by omega
   have hj6:((j:Int)+1).toNat=j+1:=by omega
   iterate 2
    refine ae (v:=?_) (by kernel_rfl) ?_ ?_;rotate_left
    ·intro w' hC;obtain⟨j0,j1,j2,j3⟩:=HE.out w' hC;go_simp;try with_reducible rfl
    try simp only[Act.put,sAr,sZe,sSu]
   refine ae (v:=.agg #[.int .i64 ss[j].f,.int .i64 ss[j].pc]) (by kernel_rfl) ?_ ?_
   ·intro w' hC;go_simp;refine (dz _ _ _ _ w').mono ?_;rintro e w'' ⟨rfl,hb2⟩;exact⟨rfl,hC.trans (hb2.mono hC.size)⟩
   try simp only[Act.put,sAr,sZe,sSu]
   iterate 5
    refine ae (v:=?_) (by kernel_rfl) ?_ ?_;rotate_left
    ·intro w' hC;obtain⟨j0,j1,j2,j3⟩:=HF.out w' hC;go_simp;try with_reducible rfl
    try simp only[Act.put,sAr,sZe,sSu]
   refine ae (v:=.agg #[.int .i64 ss[j+1].f,.int .i64 ss[j+1].pc]) (by kernel_rfl) ?_ ?_
   ·intro w' hC;go_simp;refine (dz _ _ _ _ w').mono ?_;rintro e w'' ⟨rfl,hb2⟩;exact⟨rfl,hC.trans (hb2.mono hC.size)⟩
   try simp only[Act.put,sAr,sZe,sSu]
   refine ae (v:=.int .i64 cr) (by kernel_rfl) ?_ ?_
   ·intro w' hC;go_simp;refine (comparePlaces_any _ _ _ _ w').mono ?_;rintro e w'' ⟨rfl,hb2⟩;exact⟨by rw[HCR.out],hC.trans (hb2.mono hC.size)⟩
   try simp only[Act.put,sAr,sZe,sSu]
   by_cases h0:0<=cr
   ·have HX:Hid (¬a5 ss[j] ss[j+1]):=HC0.out.1 h0
    iterate 1
     refine ae (v:=?_) (by kernel_rfl) ?_ ?_;rotate_left
     ·intro w' hC;go_simp;try with_reducible rfl
     try simp only[Act.put,sAr,sZe,sSu]
    refine wpQuiet_nil ?_;intro w2 q2;go_wp2;go_ret
    exact⟨aj (aw (fun h=>HX.out (by simpa using h (j+1) hlt (by omega)))).symm,hb.trans (q2.mono hb.size)⟩
   ·have HX:Hid (a5 ss[j] ss[j+1]):=Classical.byContradiction (fun h=>h0 (HC0.out.2 h))
    iterate 1
     refine ae (v:=?_) (by kernel_rfl) ?_ ?_;rotate_left
     ·intro w' hC;go_simp;try with_reducible rfl
     try simp only[Act.put,sAr,sZe,sSu]
    refine wpQuiet_nil ?_;intro w2 q2;go_wp2;go_roundw
    case rel=>
     refine⟨j+1+1,by omega,by omega,by go_num,?_,hb.trans (q2.mono hb.size)⟩;intro i hi h1 h2;by_cases e:i=j+1
     ·subst e;exact HX.out
     ·exact hdone.out i hi (by omega) h2
    case measure=>simp[intOf];omega
theorem toSpec_any(f p s t:Int)(w:World) :
  Calls Tryz.prog 174 #[.agg #[.int .i64 f,.int .i64 p,.int .i64 s,.int .i64 t]] w fun e w'=>e=.returned (.agg #[.int .i64 f,.int .i64 p,.int .i64 s,.int .i64 t])/\Below w.heap.size w w':=by
 go_enter Tryz.func174,Tryz.ntmps174
 go_wp2;refine bodyPost_ret (v:=.agg #[.int .i64 f,.int .i64 p,.int .i64 s,.int .i64 t]) (by simp[results,Tryz.results174,go_sem]) rfl ⟨rfl,?_⟩;exact ((gM.alloc nL _).alloc (by simp) _).alloc (by simp;omega) _
theorem eqSpec_same(f p s t:Int)(w:World) :
  Calls Tryz.prog 195 #[.agg #[.int .i64 f,.int .i64 p,.int .i64 s,.int .i64 t],.agg #[.int .i64 f,.int .i64 p,.int .i64 s,.int .i64 t]] w fun e w'=>e=.returned (.bool true)/\Below w.heap.size w w':=by
 go_enter Tryz.func195,Tryz.ntmps195
 go_wp2;go_ret
 exact⟨rfl,(gM.alloc nL _).alloc (by simp) _⟩
theorem aS.above{w w':World}{lo:Nat}{a:Option Addr}{ss:List Si}(h:aS w lo a ss)(hb:aL lo w w'):aS w' lo a ss:=by
 intro i hi;obtain⟨b,off,h1,h2,h3,h4,h5,h6⟩:=h i hi;exact⟨b,off,h1,h2,by rw[hb.cell h2];exact h3,by rw[hb.cell h2];exact h4,by rw[hb.cell h2];exact h5,by rw[hb.cell h2];exact h6⟩
def ofTypes (ts:List Nat):Obj->Prop
 | .cells _ t _=>t∈ts
 | _=>False
structure dQ (B:Nat)(ts:List Nat)(w w':World):Prop where
 os:w'.os=w.os
 tape:w'.tape=w.tape
 output:w'.output=w.output
 size:w.heap.size<=w'.heap.size
 block:∀k o,w.heap[k]?=some o->(k<B\/¬ofTypes ts o)->w'.heap[k]?=some o
theorem dQ.toBelow{B:Nat}{ts:List Nat}{w w':World}(h:dQ B ts w w')(hB:B<=w.heap.size):Below B w w':=
 ⟨h.os,h.tape,h.output,h.size,fun k hk=>by
  have:k<w.heap.size:=by omega
  rw[Array.getElem?_eq_getElem this];exact h.block k _ (Array.getElem?_eq_getElem this) (.inl hk)⟩
theorem dQ.grown{B e size n:Nat}{ts:List Nat}{v:Value}{xs:List Value}{w w':World}(hown:w.ownsRow B e size v n xs)(hg:w.grownBy w' v.ownBlock)(he:e∈ts):dQ B ts w w':=by
 refine⟨hg.os,hg.tape,hg.output,hg.size,fun k o hk ho=>?_⟩;have hlt:k<w.heap.size:=by
  rcases Nat.lt_or_ge k w.heap.size with h' | h'
  ·exact h'
  ·rw[Array.getElem?_eq_none h'] at hk;cases hk
 rw[hg.block k hlt ?_]
 ·exact hk
 ·intro hkv;rcases hown.2 with ⟨rfl,-⟩ | ⟨g,cap,cur,rfl,hb,hh,-⟩
  ·simp[Value.ownBlock] at hkv
  ·simp[Value.ownBlock] at hkv
   subst hkv;rw[hh] at hk
   cases hk;rcases ho with ho | ho
   ·omega
   ·exact ho he
theorem dQ.cell{B:Nat}{ts:List Nat}{w w':World}(h:dQ B ts w w'){b:Nat}{cs:Array Value}{t:TypeId}{fr:Nat×Nat}(hb:w.heap[b]?=some (.cells cs t fr))(ht:t∉ts):w'.heap[b]?=some (.cells cs t fr):=
 h.block b _ hb (.inr ht)
def de (w:World)(g n:Nat):Prop:=∃cur:Array Value,w.heap[g]?=some (Obj.cells cur 9 (0,0))/\cur.size=n
theorem cI{lo g:Nat}{w w':World}{o:Obj}(h:aL lo w w')(hg:lo<=g)(hb:w.heap[g]?=some o):w'.heap[g]?=some o:=by
 have hlt:g<w.heap.size:=by
  rcases Nat.lt_or_ge g w.heap.size with h' | h'
  ·exact h'
  ·rw[Array.getElem?_eq_none h'] at hb;cases hb
 rw[h g hg hlt];exact hb
theorem de.mono{w w':World}{g n:Nat}(h:de w g n)(hb:Below w.heap.size w w'):de w' g n:=by
 obtain⟨c,h1,h2⟩:=h;exact⟨c,ab h1 hb,h2⟩
theorem de.above{w w':World}{lo g n:Nat}(h:de w g n)(hb:aL lo w w')(hg:lo<=g):de w' g n:=by
 obtain⟨c,h1,h2⟩:=h;exact⟨c,cI hb hg h1,h2⟩
theorem info3:(Tryz.prog.info? 3).map (fun i=>(i.zero,i.size,i.bytes))=some (some (.int .i64 0),1,8):=by kernel_rfl
def bM (w:World)(lo:Nat)(a:Option Addr)(xs:List Int):Prop:=
 ∀i (h:i<xs.length),∃b off,a=some ⟨b,off,none⟩/\lo<=b/\w.cell? ⟨b,off+i,none⟩=some (.int .i64 xs[i])
theorem bM.low{w:World}{lo lo':Nat}{a:Option Addr}{xs:List Int}(h:bM w lo a xs)(hl:lo'<=lo):bM w lo' a xs:=fun i hi=>by
 obtain⟨b,off,h1,h2,h3⟩:=h i hi;exact⟨b,off,h1,by omega,h3⟩
theorem bM.above{w w':World}{lo:Nat}{a:Option Addr}{xs:List Int}(h:bM w lo a xs)(hb:aL lo w w'):bM w' lo a xs:=by
 intro i hi;obtain⟨b,off,h1,h2,h3⟩:=h i hi;exact⟨b,off,h1,h2,hb.cell h2 h3⟩
theorem bM.own{w:World}{B n cap:Nat}{a:Option Addr}{xs:List Int}{vs:List Value}(h:w.ownsRow B 3 1 (.slice a n cap) n vs)(hv:vs=xs.map (Value.int .i64))(hn:n=xs.length):bM w B a xs:=by
 subst hv;subst hn;rcases h.2 with ⟨-,hn⟩ | ⟨g,cap,cur,hv,hb,hh,hn,-,hs,htake⟩
 ·exact fun i hi=>by omega
 ·cases hv;refine fun i hi=>⟨g,0,rfl,hb,?_⟩
  rw[aa hh,Nat.zero_add];have h1:(cur.toList.take (xs.length*1))[i]?=(xs.map (Value.int .i64))[i]?:=by rw[htake]
  rw[List.getElem?_take_of_lt (by omega)] at h1;simpa[hi] using h1
theorem next25(a:Int)(pc:Nat):nextB 25 a pc=[]:=rfl
theorem next17(a:Int)(pc:Nat):nextB 17 a pc=[a]:=rfl
theorem next18(a:Int)(pc:Nat):nextB 18 a pc=[(pc:Int)+1,a]:=rfl
theorem next19(a:Int)(pc:Nat):nextB 19 a pc=[(pc:Int)+1,a]:=rfl
theorem next_else{op:Int}(a:Int)(pc:Nat)(h1:op≠25)(h2:op≠17)(h3:op≠18)(h4:op≠19):nextB op a pc=[(pc:Int)+1]:=by
 unfold nextB;rw[if_neg h1,if_neg h2,if_neg (by omega)]
theorem eP(W:World)(n:Nat)(hn:W.heap.size=n)(v:Value)(t:TypeId):∀(j:Nat) (u:Value),[v][j]?=some u->(W.alloc (.cells #[v] t)).cell? ((⟨n,0,none⟩:Addr).add j)=some u:=by
 subst hn;exact cell_one_new _ _ _
theorem sNext_any(op a:Int)(pc:Nat)(w:World)(hpc:pc<=1048576) :
  Calls Tryz.prog 85 #[.agg #[.int .i64 op,.int .i64 a],.int .i64 pc] w fun e w'=>∃ad cap,e=.returned (.slice ad (nextB op a pc).length cap)/\bM w' w.heap.size ad (nextB op a pc)/\Below w.heap.size w w':=by
 obtain⟨i0,hi,hz0,hz1,hz2⟩:=info_parts info3;by_cases h25:op=25
 ·subst h25;rw[next25];go_enter Tryz.func85,Tryz.ntmps85
  go_wp2;go_ret
  exact⟨_,_,rfl,fun i hi=>absurd hi (by simp),(gM.alloc nL _).alloc (by simp) _⟩
 have hM0:=al (ah w #[.int .i64 op,.int .i64 a] 153) (.cells #[] 3);have hE0:((w.alloc (.cells #[.int .i64 op,.int .i64 a] 153)).alloc (.cells #[] 3)).ownsRow w.heap.size 3 1 (.slice (some ⟨w.heap.size+1,0,none⟩) 0 0) 0 []:=by
  have:=World.ownsRow_made (base:=w.heap.size) (e:=3) (size:=1) (w.alloc (.cells #[.int .i64 op,.int .i64 a] 153)) #[] 0 (by simp) (by unfold maxLen;omega) rfl;simpa using this
 have hbA:Below w.heap.size w ((w.alloc (.cells #[.int .i64 op,.int .i64 a] 153)).alloc (.cells #[] 3)):=(gM.alloc nL _).alloc (by simp) _;by_cases h17:op=17
 ·subst h17;rw[next17];go_enter Tryz.func85,Tryz.ntmps85
  go_wp2_with (first | (at_builtin;refine wpList_append_lies _ rfl _ _ 148 rfl w.heap.size 3 i0 (.int .i64 0) 1 8 Tryz.underlying148 hi hz0 hz1 hz2 rfl (by decide) _ _ _ rfl (World.ownsRow.alloc hE0 _) ⟨w.heap.size+1+1,0,none⟩ 1 1 [.int .i64 a] rfl rfl (eP _ _ (by simp) _ _) (by intro u hu;simp at hu;subst hu;rfl) (by decide) (by unfold maxLen;omega) (by omega) (by simp;omega) _ rfl ?_;intro g cap w1 hown1 hgrow1 hat1 hlt1))
  have hb1:Below w.heap.size w w1:=(hbA.alloc (by simp;omega) _).trans ((dQ.grown (ts:=[3]) (World.ownsRow.alloc hE0 _) hgrow1 (by simp)).toBelow (by simp;omega));go_ret
  exact⟨_,_,rfl,bM.own hown1 (by simp) (by simp),hb1⟩
 by_cases h2:op=18\/op=19
 ·rcases h2 with rfl | rfl
  all_goals
   first | rw[next18] | rw[next19]
   clear h25 h17;go_enter Tryz.func85,Tryz.ntmps85
   go_wp2_with (first | (at_builtin;refine wpList_append_lies _ rfl _ _ 148 rfl w.heap.size 3 i0 (.int .i64 0) 1 8 Tryz.underlying148 hi hz0 hz1 hz2 rfl (by decide) _ _ _ rfl (World.ownsRow.alloc hE0 _) ⟨w.heap.size+1+1,0,none⟩ 1 1 [.int .i64 ((pc:Int)+1)] rfl rfl (eP _ _ (by simp) _ _) (by intro u hu;simp at hu;subst hu;rfl) (by decide) (by unfold maxLen;omega) (by omega) (by simp;omega) _ rfl ?_;intro g cap w1 hown1 hgrow1 hat1 hlt1;have hk1:=dQ.grown (ts:=[3]) (World.ownsRow.alloc hE0 _) hgrow1 (by simp);have hb1:Below w.heap.size w w1:=(hbA.alloc (by simp;omega) _).trans (hk1.toBelow (by simp;omega));have hM1:=hk1.cell (al hM0 _) (by simp);have x1:=aa hM1;have hsz1:=hb1.size;simp only[Nat.zero_add,List.nil_append] at hown1;clear hk1 hgrow1 hat1 hlt1 hE0 hM0 hM1 hbA;go_wp2_with (at_builtin;refine wpList_append_lies _ rfl _ _ 148 rfl w.heap.size 3 i0 (.int .i64 0) 1 8 Tryz.underlying148 hi hz0 hz1 hz2 rfl (by decide) (.slice (some ⟨g,0,none⟩) 1 cap) 1 [.int .i64 ((pc:Int)+1)] rfl (World.ownsRow.alloc hown1 _) ⟨w1.heap.size,0,none⟩ 1 1 [.int .i64 a] rfl rfl (cell_one_new _ _ _) (by intro u hu;simp at hu;subst hu;rfl) (by decide) (by unfold maxLen;omega) (by omega) (by simp;omega) _ rfl ?_;intro g2 cap2 w2 hown2 hgrow2 hat2 hlt2)))
   have hb2:Below w.heap.size w w2:=(hb1.alloc hb1.size _).trans ((dQ.grown (ts:=[3]) (World.ownsRow.alloc hown1 _) hgrow2 (by simp)).toBelow (by simp;omega));go_ret
   exact⟨_,_,rfl,bM.own hown2 (by simp) (by simp),hb2⟩
 ·have h18:op≠18:=fun h=>h2 (Or.inl h)
  have h19:op≠19:=fun h=>h2 (Or.inr h)
  rw[next_else a pc h25 h17 h18 h19];have b25:(op != 25)=true:=by simpa using h25
  have b17:(op != 17)=true:=by simpa using h17
  have d17:(op == 17)=false:=by simpa using h17
  have b18:(op == 18)=false:=by simpa using h18
  have b19:(op == 19)=false:=by simpa using h19
  clear h2 h25 h17 h18 h19;go_enter Tryz.func85,Tryz.ntmps85
  go_wp2_with (first | (at_builtin;refine wpList_append_lies _ rfl _ _ 148 rfl w.heap.size 3 i0 (.int .i64 0) 1 8 Tryz.underlying148 hi hz0 hz1 hz2 rfl (by decide) _ _ _ rfl (World.ownsRow.alloc hE0 _) ⟨w.heap.size+1+1,0,none⟩ 1 1 [.int .i64 ((pc:Int)+1)] rfl rfl (eP _ _ (by simp) _ _) (by intro u hu;simp at hu;subst hu;rfl) (by decide) (by unfold maxLen;omega) (by omega) (by simp;omega) _ rfl ?_;intro g cap w1 hown1 hgrow1 hat1 hlt1;have hk1:=dQ.grown (ts:=[3]) (World.ownsRow.alloc hE0 _) hgrow1 (by simp);have hb1:Below w.heap.size w w1:=(hbA.alloc (by simp;omega) _).trans (hk1.toBelow (by simp;omega));have hM1:=hk1.cell (al hM0 _) (by simp);have x1:=aa hM1))
  go_ret
  exact⟨_,_,rfl,bM.own hown1 (by simp) (by simp),hb1⟩
end Go.Proofs.YtdlkbbgmjilccaaGreatDoor
