/- RV8 -/
import Derived.Test.YtbjmgmmekmfjhaaGreatDoorRV7
import Derived.Laws.StructEq
set_option maxHeartbeats 32000000
set_option maxRecDepth 100000
namespace Go.Proofs.YtbjmgmmekmfjhaaGreatDoor
open Go.RowKit
theorem si_eq{v u:Si}:v=u↔v.f=u.f/\v.pc=u.pc/\v.seen=u.seen/\v.target=u.target:=by
 cases v;cases u;simp
theorem fI(P Q:Prop):pB (P/\Q)=(pB P && pB Q):=by
 rw[Bool.eq_iff_iff];simp[pB]
theorem gQ(a b:Int):(a == b)=pB (a=b):=by
 rw[Bool.eq_iff_iff];simp[pB]
theorem guard44:Tryz.prog.eqGuardType Tryz.prog.depth 97=false:=by kernel_rfl
theorem gW(v u:Si)(W:World):(Op.equalIn 10000 97 (.agg #[.int .i64 v.f,.int .i64 v.pc,.int .i64 v.seen,.int .i64 v.target]) (.agg #[.int .i64 u.f,.int .i64 u.pc,.int .i64 u.seen,.int .i64 u.target])).run Tryz.prog W=.ok (pB (v=u)) W:=by
 have h:∀d:Nat,(Op.equalIn (d+1+1) 97 (.agg #[.int .i64 v.f,.int .i64 v.pc,.int .i64 v.seen,.int .i64 v.target]) (.agg #[.int .i64 u.f,.int .i64 u.pc,.int .i64 u.seen,.int .i64 u.target])).run Tryz.prog W=.ok (pB (v=u)) W:=fun d=>by
  have ht:Tryz.prog.underlying 97=some (.struct (Tryz.prog.fieldsOf 97)):=by kernel_rfl
  have hp:Tryz.prog.stoodInHeld 97=false:=by kernel_rfl
  have hf : (Tryz.prog.fieldsOf 97).toList.map (fun f => (f.name, f.type, f.offset)) = [("Func", 3, 0), ("Pc", 3, 1), ("Kind", 3, 2), ("Target", 3, 3)] := by kernel_rfl
  rw[run_equalIn_struct W (d+1) 97 _ _ ht hp];have p0:∀(a b c e:Int) (W:World),(part 3 #[.int .i64 a,.int .i64 b,.int .i64 c,.int .i64 e] 0).run Tryz.prog W=.ok (.int .i64 a) W:=fun _ _ _ _ _=>by kernel_rfl
  have p1:∀(a b c e:Int) (W:World),(part 3 #[.int .i64 a,.int .i64 b,.int .i64 c,.int .i64 e] 1).run Tryz.prog W=.ok (.int .i64 b) W:=fun _ _ _ _ _=>by kernel_rfl
  have p2:∀(a b c e:Int) (W:World),(part 3 #[.int .i64 a,.int .i64 b,.int .i64 c,.int .i64 e] 2).run Tryz.prog W=.ok (.int .i64 c) W:=fun _ _ _ _ _=>by kernel_rfl
  have p3:∀(a b c e:Int) (W:World),(part 3 #[.int .i64 a,.int .i64 b,.int .i64 c,.int .i64 e] 3).run Tryz.prog W=.ok (.int .i64 e) W:=fun _ _ _ _ _=>by kernel_rfl
  rcases hL:(Tryz.prog.fieldsOf 97).toList with _ | ⟨f1,_ | ⟨f2,_ | ⟨f3,_ | ⟨f4,_ | _⟩⟩⟩⟩
  ·rw[hL] at hf;simp at hf
  ·rw[hL] at hf;simp at hf
  ·rw[hL] at hf;simp at hf
  ·rw[hL] at hf;simp at hf
  ·rw[hL] at hf;simp only[List.map_cons,List.map_nil,List.cons.injEq,Prod.mk.injEq,and_true] at hf
   obtain⟨⟨n1,t1,o1⟩,⟨n2,t2,o2⟩,⟨n3,t3,o3⟩,n4,t4,o4⟩:=hf;have e1:=run_equalIn_int (P:=Tryz.prog) W d 3 .i64 .i64 v.f u.f Tryz.underlying3;have e2:=run_equalIn_int (P:=Tryz.prog) W d 3 .i64 .i64 v.pc u.pc Tryz.underlying3;have e3:=run_equalIn_int (P:=Tryz.prog) W d 3 .i64 .i64 v.seen u.seen Tryz.underlying3;have e4:=run_equalIn_int (P:=Tryz.prog) W d 3 .i64 .i64 v.target u.target Tryz.underlying3;rw[gQ] at e1 e2 e3 e4;have hb:pB (v=u)=(pB (v.f=u.f) && (pB (v.pc=u.pc) && (pB (v.seen=u.seen) && pB (v.target=u.target)))):=by
    rw[<-fI,<-fI,<-fI,show (v=u)=(v.f=u.f/\v.pc=u.pc/\v.seen=u.seen/\v.target=u.target) from propext si_eq]
   rw[hb]
   cases hk:pB (v.f=u.f)<;>cases hn:pB (v.pc=u.pc)<;>cases hs:pB (v.seen=u.seen)<;>cases hq:pB (v.target=u.target)<;>rw[hk] at e1<;>rw[hn] at e2<;>rw[hs] at e3<;>rw[hq] at e4 <;>
    simp[Op.eqFields,n1,t1,o1,n2,t2,o2,n3,t3,o3,n4,t4,o4,p0,p1,p2,p3,e1,e2,e3,e4]
  ·rw[hL] at hf;simp at hf
 exact h 9998
def dh (fs:List Fn)(s:Si):Prop:=dP fs s.f s.pc s.target (some s)
def gE (fs:List Fn)(ss:List Si):Prop:=(∀i (h:i<ss.length),dh fs ss[i])/\AscI ss
theorem specsOk_any(a1 a2:Option Addr)(nt c1 c2:Nat)(fs:List Fn)(a:Option Addr)(cap:Nat)(ss:List Si)(w:World)(hn:ss.length<=150)(hc:∀f∈fs,f.code.length<=1048576)(hm:FnsAt w 0 a2 fs)(hs:fg w 0 a ss) :
  Calls Tryz.prog 272 #[.agg #[.slice a1 nt c1,.slice a2 fs.length c2],.slice a ss.length cap] w fun e w'=>e=.returned (.bool (pB (gE fs ss)))/\Below w.heap.size w w':=by
 have HG:Hid (∀(f p t:Int) w',Below w.heap.size w w'->Calls Tryz.prog 289 #[.agg #[.slice a1 nt c1,.slice a2 fs.length c2],.agg #[.int .i64 f,.int .i64 p],.int .i64 t] w' (gP fs f p t w')):=fun f p t w' hb=>guessAt_any a1 a2 nt c1 c2 fs f p t w' hc (hm.mono hb)
 clear hc hm;go_enter Tryz.func272,Tryz.ntmps272
 go_wp2;go_loopw [11] (fun i wr=>∃(k:Nat),k<=ss.length/\i=.int .i64 k/\Hid (∀j (hj:j<ss.length),j<k->dh fs ss[j])/\wr.heap[w.heap.size]?=some (.cells #[.slice a1 nt c1,.slice a2 fs.length c2] 36 (0,0))/\Below w.heap.size w wr) (fun i _=>ss.length-(intOf i).toNat)
 case atStart=>exact⟨0,by omega,rfl,fun _ _ h=>absurd h (Nat.not_lt_zero _),al _ _ _,b_r.alloc n_l _⟩
 case round=>
  obtain⟨k,hk,rfl,hdone,hM,hb⟩:=hrel;by_cases hlt:k<ss.length
  case neg=>
   have HD:Hid (∀i (h:i<ss.length),dh fs ss[i]):=fun i hi=>hdone.out i hi (by omega)
   clear hdone hM;go_wp2_with fail
   refine (ascSpecs_any a ss cap wr (by omega) (hs.mono hb)).mono ?_;rintro e w2 ⟨rfl,hb2⟩;have HB2:Hid (Below w.heap.size w w2):=hb.trans (hb2.mono hb.size);go_wp2;go_ret
   refine⟨ax ?_,HB2.out⟩;by_cases h:AscI ss
   ·rw[aL h,aL (show gE fs ss from ⟨HD.out,h⟩)]
   ·rw[aJ h,aJ (fun h':gE fs ss=>h h'.2)]
  case pos=>
   obtain⟨b,off,rfl,-,d1,d2,d3,d4⟩:=hs k hlt;have d1':=cell_later hb d1;have d2':=cell_later hb d2;have d3':=cell_later hb d3;have d4':=cell_later hb d4;clear d1 d2 d3 d4;obtain⟨w2,hw2⟩:∃w2,w2=wr.alloc (.cells #[.int .i64 ss[k].f,.int .i64 ss[k].pc,.int .i64 ss[k].seen,.int .i64 ss[k].target] 97):=⟨_,rfl⟩;have hM2:w2.heap[w.heap.size]?=some (.cells #[.slice a1 nt c1,.slice a2 fs.length c2] 36 (0,0)):=by rw[hw2];exact au hM _
   have hX2:w2.heap[wr.heap.size]?=some (.cells #[.int .i64 ss[k].f,.int .i64 ss[k].pc,.int .i64 ss[k].seen,.int .i64 ss[k].target] 97 (0,0)):=by rw[hw2];exact al _ _ _
   have HB:Hid (Below w.heap.size w w2):=by rw[hw2];exact hb.alloc hb.size _
   have HZ:Hid (wr.heap.size+1<=w2.heap.size):=by rw[hw2];show _<=_;simp
   have hwz:w.heap.size<wr.heap.size:=by
    have:=hM;rcases Nat.lt_or_ge w.heap.size wr.heap.size with h | h
    ·exact h
    ·rw[Array.getElem?_eq_none h] at this;cases this
   have HWZ:Hid (w.heap.size<wr.heap.size):=hwz;clear hwz
   have HS:Hid (∀w',Below (wr.heap.size+1) w2 w'->w'.cell? ⟨w.heap.size,0,none⟩=some (.slice a1 nt c1)/\w'.cell? ⟨w.heap.size,1,none⟩=some (.slice a2 fs.length c2)/\w'.cell? ⟨wr.heap.size,0,none⟩=some (.int .i64 ss[k].f)/\w'.cell? ⟨wr.heap.size,1,none⟩=some (.int .i64 ss[k].pc)/\w'.cell? ⟨wr.heap.size,2,none⟩=some (.int .i64 ss[k].seen)/\w'.cell? ⟨wr.heap.size,3,none⟩=some (.int .i64 ss[k].target)):=fun w' q=>
    ⟨by rw[q.cell (by have:=HWZ.out;simp;omega),ae hM2];rfl,by rw[q.cell (by have:=HWZ.out;simp;omega),ae hM2];rfl,by rw[q.cell (by simp),ae hX2];rfl,by rw[q.cell (by simp),ae hX2];rfl,by rw[q.cell (by simp),ae hX2];rfl,by rw[q.cell (by simp),ae hX2];rfl⟩
   obtain⟨j0,j1,j2,j3,j4,j5⟩:=HS.out w2 b_r;have q:Below w2.heap.size w2 w2.drew:=b_r.drew;have HM2:Hid (w2.heap[w.heap.size]?=some (.cells #[.slice a1 nt c1,.slice a2 fs.length c2] 36 (0,0))):=hM2;clear hM hM2 hX2;go_upto_region 4 with fail
   rw[<-hw2];clear hw2 d1' d2' d3' d4';go_cut [7,8] from 15 to 24 (fun s7 s8 wx=>∃g r,s7=.pointer (some ⟨g,0,none⟩)/\s8=.bool (Option.isSome r)/\dP fs ss[k].f ss[k].pc ss[k].target r/\wx.heap[g]?=some (.cells (r.getD ⟨0,0,0,0⟩).cells 97 (0,0))/\Below w2.heap.size w2 wx)
   case first=>
    go_region_held3 (fun w'=>w'.cell? ⟨w.heap.size,0,none⟩=some (.slice a1 nt c1)/\w'.cell? ⟨w.heap.size,1,none⟩=some (.slice a2 fs.length c2)/\w'.cell? ⟨wr.heap.size,0,none⟩=some (.int .i64 ss[k].f)/\w'.cell? ⟨wr.heap.size,1,none⟩=some (.int .i64 ss[k].pc)/\w'.cell? ⟨wr.heap.size,2,none⟩=some (.int .i64 ss[k].seen)/\w'.cell? ⟨wr.heap.size,3,none⟩=some (.int .i64 ss[k].target))
     (first
      | exact⟨j0,j1,j2,j3,j4,j5⟩
      | exact HS.out _ (q.mono HZ.out)
      | exact HS.out _ ((q.mono HZ.out).alloc (Nat.le_trans HZ.out q.size) _)
      | exact HS.out _ (((((q.mono HZ.out).setCell (Nat.le_trans HZ.out hg) _).setCell (Nat.le_trans HZ.out hg) _).setCell (Nat.le_trans HZ.out hg) _).setCell (Nat.le_trans HZ.out hg) _)
      | exact HS.out _ ((((((q.mono HZ.out).alloc (Nat.le_trans HZ.out q.size) _).setCell (Nat.le_trans HZ.out q.size) _).setCell (Nat.le_trans HZ.out q.size) _).setCell (Nat.le_trans HZ.out q.size) _).setCell (Nat.le_trans HZ.out q.size) _))
     (first
      | (go_at_call 109;refine (dU _ _ _ _ _).mono ?_;rintro e wa ⟨rfl,kd⟩;(first | (have hk:=ah hk kd;have hc:=ae hk;have hf:=aq hk) | (have hk:=ah (b6 _ _ _) kd;have hg:=Nat.le_refl w2.heap.size;have hc:=ae hk;have hf:=aq hk) | (have hk:=ah (al _ _ _) kd;have hg:=q.size;have hc:=ae hk;have hf:=aq hk) | skip);(first | (have q:=q.trans (kd.mono q.size)) | (have q:=(q.alloc q.size _).trans (kd.mono (by have:=q.size;simp<;>omega)))))
      | (go_at_call 289;refine (HG.out _ _ _ _ (by first | exact HB.out.trans (q.mono HB.out.size) | exact HB.out.trans ((q.alloc q.size _).mono HB.out.size))).mono ?_;rintro e wb ⟨r,hr,rfl,kd⟩;obtain⟨r0,hr0⟩:∃r0,r0=r.getD ⟨0,0,0,0⟩:=⟨_,rfl⟩;rw[<-hr0];obtain⟨r1,r2,r3,r4⟩:=r0;have HR0:Hid (r.getD ⟨0,0,0,0⟩=⟨r1,r2,r3,r4⟩):=hr0.symm;clear hr0;have HRR:Hid (dP fs ss[k].f ss[k].pc ss[k].target r):=hr;clear hr;unfold Si.cells;dsimp only;(first | (have hk:=ah hk kd;have hc:=ae hk;have hf:=aq hk) | (have hk:=ah (b6 _ _ _) kd;have hg:=Nat.le_refl w2.heap.size;have hc:=ae hk;have hf:=aq hk) | (have hk:=ah (al _ _ _) kd;have hg:=q.size;have hc:=ae hk;have hf:=aq hk) | skip);(first | (have q:=q.trans (kd.mono q.size)) | (have q:=(q.alloc q.size _).trans (kd.mono (by have:=q.size;simp<;>omega))))))
    all_goals
     go_wp2_with fail
     go_meet
     case rel=>
      first
       | exact⟨_,r,rfl,rfl,HRR.out,by rw[HR0.out];exact eZ hk,(((q.setCell hg _).setCell hg _).setCell hg _).setCell hg _⟩
       | exact⟨_,r,rfl,rfl,HRR.out,by rw[HR0.out];exact al _ _ _,q.alloc q.size _⟩
   case rest=>
    obtain⟨g,r,rfl,rfl,hr,hG,hq⟩:=hcut;have HB2:Hid (Below w.heap.size w wc):=HB.out.trans (hq.mono HB.out.size);have HM3:Hid (wc.heap[w.heap.size]?=some (.cells #[.slice a1 nt c1,.slice a2 fs.length c2] 36 (0,0))):=ah HM2.out hq;clear j0 j1 j2 j3 j4 j5 q;obtain⟨j0,j1,j2,j3,j4,j5⟩:=HS.out wc (hq.mono HZ.out);clear HS HZ hq HB HG HM2
    cases r with
    | none=>
     have HX:Hid (¬dh fs ss[k]):=fun h=>by cases guessD_one h hr
     clear hr;go_wp2;go_ret
     exact⟨ax (aJ (fun h=>HX.out (h.1 k hlt))).symm,HB2.out⟩
    | some u=>
     have g44:=guard44;have e44:=gW u ss[k];have hG':wc.heap[g]?=some (.cells #[.int .i64 u.f,.int .i64 u.pc,.int .i64 u.seen,.int .i64 u.target] 97 (0,0)):=hG;have c0:=ae hG';clear hG;by_cases hE:u=ss[k]
     ·have HX:Hid (dh fs ss[k]):=by show dP _ _ _ _ _;rw[<-hE];rw[<-hE] at hr;exact hr
      rw[aL hE] at e44;clear hr hE;go_wp2;go_roundw
      case rel=>
       refine⟨k+1,by omega,by go_num,?_,HM3.out,HB2.out⟩;intro j hj hjk;by_cases e:j=k
       ·subst e;exact HX.out
       ·exact hdone.out j hj (by omega)
      case measure=>simp[intOf];omega
     ·have HX:Hid (¬dh fs ss[k]):=fun h=>hE (Option.some.inj (guessD_one hr h))
      rw[aJ hE] at e44;clear hr hE;go_wp2;go_ret
      exact⟨ax (aJ (fun h=>HX.out (h.1 k hlt))).symm,HB2.out⟩
theorem specP_iff{fs:List Fn}{f p:Nat}{kd tg:Int}(hf:f<fs.length)(hp:p<fs[f].code.length):dh fs ⟨f,p,kd,tg⟩↔(kd=1/\(11<=fs[f].code[p].1/\fs[f].code[p].1<=14)/\tg=0)\/(kd=2/\fs[f].code[p].1=23/\du fs tg fs[f].code[p].2):=by
 unfold dh dP;rw[fP hf hp];simp only[Option.getD_some,Option.some.injEq,Si.mk.injEq,true_and,reduceCtorEq,and_false,or_false]
 constructor
 ·rintro (⟨h1,h2,h3,h4⟩ | ⟨h1,h2,h3⟩)
  ·exact .inl ⟨h3,⟨h1,h2⟩,h4⟩
  ·exact .inr ⟨h3.1,h1,h2⟩
 ·rintro (⟨h1,⟨h2,h3⟩,h4⟩ | ⟨h1,h2,h3⟩)
  ·exact .inl ⟨h2,h3,h1,h4⟩
  ·exact .inr ⟨h2,h3,h1,trivial⟩
theorem specP_none{fs:List Fn}{s:Si}(h:insD fs s.f s.pc=none):¬dh fs s:=by
 unfold dh dP;rw[h];simp
theorem specOk_any(a1 a2:Option Addr)(nt c1 c2:Nat)(fs:List Fn)(s:Si)(w:World)(hc:∀f∈fs,f.code.length<=1048576)(hn:fs.length<=1048576)(hm:FnsAt w 0 a2 fs) :
  Calls Tryz.prog 208 #[.agg #[.slice a1 nt c1,.slice a2 fs.length c2],.agg #[.int .i64 s.f,.int .i64 s.pc,.int .i64 s.seen,.int .i64 s.target]] w fun e w'=>e=.returned (.bool (pB (dh fs s)))/\Below w.heap.size w w':=by
 obtain⟨sf,sp,kd,tg⟩:=s;dsimp only
 obtain⟨r,hr⟩:∃r,r=pB (dh fs ⟨sf,sp,kd,tg⟩):=⟨_,rfl⟩;rw[<-hr];have HR:Hid (r=pB (dh fs ⟨sf,sp,kd,tg⟩)):=hr;clear hr;obtain⟨nf,hnf⟩:∃nf,nf=fs.length:=⟨_,rfl⟩;rw[<-hnf] at hn ⊢;have HNF:Hid (nf=fs.length):=hnf;clear hnf;obtain⟨w0,hw0⟩:∃w0,w0=(w.alloc (.cells #[.slice a1 nt c1,.slice a2 nf c2] 36)).alloc (.cells #[.int .i64 sf,.int .i64 sp,.int .i64 kd,.int .i64 tg] 97):=⟨_,rfl⟩;have hB:Below w.heap.size w w0:=by rw[hw0];exact (b_r.alloc n_l _).alloc (by simp) _
 have hX:w0.heap[w.heap.size]?=some (.cells #[.slice a1 nt c1,.slice a2 nf c2] 36 (0,0)):=by rw[hw0];exact au (al _ _ _) _
 have hY:w0.heap[w.heap.size+1]?=some (.cells #[.int .i64 sf,.int .i64 sp,.int .i64 kd,.int .i64 tg] 97 (0,0)):=by rw[hw0];simpa using al (w.alloc (.cells #[.slice a1 nt c1,.slice a2 nf c2] 36)) #[.int .i64 sf,.int .i64 sp,.int .i64 kd,.int .i64 tg] 97
 have HZ0:Hid (w.heap.size+2<=w0.heap.size):=by rw[hw0];show _<=_;simp
 have HS:Hid (∀w',Below w0.heap.size w0 w'->w'.cell? ⟨w.heap.size,0,none⟩=some (.slice a1 nt c1)/\w'.cell? ⟨w.heap.size,1,none⟩=some (.slice a2 nf c2)/\w'.cell? ⟨w.heap.size+1,0,none⟩=some (.int .i64 sf)/\w'.cell? ⟨w.heap.size+1,1,none⟩=some (.int .i64 sp)/\w'.cell? ⟨w.heap.size+1,2,none⟩=some (.int .i64 kd)/\w'.cell? ⟨w.heap.size+1,3,none⟩=some (.int .i64 tg)):=fun w' hb=>
  ⟨ckb hX hb rfl,ckb hX hb rfl,ckb hY hb rfl,ckb hY hb rfl,ckb hY hb rfl,ckb hY hb rfl⟩
 have HS2:Hid (∀w',Below (w.heap.size+2) w0 w'->w'.cell? ⟨w.heap.size,0,none⟩=some (.slice a1 nt c1)/\w'.cell? ⟨w.heap.size,1,none⟩=some (.slice a2 nf c2)/\w'.cell? ⟨w.heap.size+1,0,none⟩=some (.int .i64 sf)/\w'.cell? ⟨w.heap.size+1,1,none⟩=some (.int .i64 sp)/\w'.cell? ⟨w.heap.size+1,2,none⟩=some (.int .i64 kd)/\w'.cell? ⟨w.heap.size+1,3,none⟩=some (.int .i64 tg)):=fun w' hb=>
  ⟨by rw[hb.cell (by simp),ae hX];rfl,by rw[hb.cell (by simp),ae hX];rfl,by rw[hb.cell (by simp),ae hY];rfl,by rw[hb.cell (by simp),ae hY];rfl,by rw[hb.cell (by simp),ae hY];rfl,by rw[hb.cell (by simp),ae hY];rfl⟩
 clear hX hY;go_enter Tryz.func208,Tryz.ntmps208
 go_upto_region 1 with fail
 rw[<-hw0];clear hw0;refine aB (by kernel_rfl) (by kernel_rfl) ?_
 iterate 5
  refine am (v:=?_) (by kernel_rfl) ?_ ?_;rotate_left
  ·intro w' hC;obtain⟨j0,j1,j2,j3,j4,j5⟩:=HS.out w' hC;go_simp;try with_reducible rfl
  try simp only[Act.put,sAr,sZe,sSu]
 refine am (v:=.int .i64 ((nf:Int)-1)) (by kernel_rfl) ?_ ?_
 ·intro w' hC;go_simp
  (rw[IntKind.wrap_i64];omega)
 try simp only[Act.put,sAr,sZe,sSu]
 by_cases h1:0<=sf/\sf<=(nf:Int)-1
 case neg=>
  have HX:Hid (r=false):=by show r=false;rw[HR.out];exact aJ (specP_none (by
   cases e:insD fs sf sp with
   | none=>rfl
   | some x=>obtain⟨f',p',hf,hp,rfl,rfl,rfl⟩:=fG e;exact absurd ⟨by omega,by have:=HNF.out;omega⟩ h1))
  refine am (v:=.bool false) (by kernel_rfl) ?_ ?_
  ·intro w' hC;go_simp;refine (eC (lo:=0) (hi:=(nf:Int)-1) h1 w').mono ?_;rintro e w'' ⟨rfl,rfl⟩;exact⟨rfl,hC⟩
  try simp only[Act.put,sAr,sZe,sSu]
  iterate 2
   refine am (v:=?_) (by kernel_rfl) ?_ ?_;rotate_left
   ·intro w' hC;go_simp;try with_reducible rfl
   try simp only[Act.put,sAr,sZe,sSu]
  iterate 13 go_big_quiet_skip
  refine am (v:=?_) (by kernel_rfl) ?_ ?_;rotate_left
  ·intro w' hC;go_simp;try with_reducible rfl
  try simp only[Act.put,sAr,sZe,sSu]
  refine wpQuiet_nil ?_;intro w2 q2;obtain rfl:=HX.out;clear h1;go_wp2;go_ret
  exact⟨rfl,hB.trans (q2.mono hB.size)⟩
 refine am (v:=.bool true) (by kernel_rfl) ?_ ?_
 ·intro w' hC;go_simp;refine (dY (lo:=0) (hi:=(nf:Int)-1) h1 w').mono ?_;rintro e w'' ⟨rfl,rfl⟩;exact⟨rfl,hC⟩
 try simp only[Act.put,sAr,sZe,sSu]
 obtain⟨f,rfl⟩:∃f:Nat,sf=f:=⟨sf.toNat,by omega⟩;have hf:f<fs.length:=by have:=HNF.out;omega
 have hf2:f<nf:=by omega
 obtain⟨b,off,ca,cc,rfl,-,d1,d2,d3,hcode⟩:=hm f hf;have hcl:=hc _ (g_m hf);obtain⟨nc,hnc⟩:∃nc,nc=fs[f].code.length:=⟨_,rfl⟩;rw[<-hnc] at d3 hcl;have HNC:Hid (nc=fs[f].code.length):=hnc;clear hnc;have d3':=cell_later hB d3;have HD:Hid (∀w',Below w0.heap.size w0 w'->w'.cell? ⟨b,off+f*3+2,none⟩=some (.slice ca nc cc)):=fun w' q=>cell_later q d3'
 clear h1 d1 d2;have hi1:(0:Int)<=(f:Int):=by omega
 have hi2:(f:Int)<(nf:Int):=by omega
 iterate 2
  refine am (v:=?_) (by kernel_rfl) ?_ ?_;rotate_left
  ·intro w' hC;go_simp;try with_reducible rfl
  try simp only[Act.put,sAr,sZe,sSu]
 iterate 8
  refine am (v:=?_) (by kernel_rfl) ?_ ?_;rotate_left
  ·intro w' hC;obtain⟨j0,j1,j2,j3,j4,j5⟩:=HS.out w' hC;have d:=HD.out w' hC;go_simp;try with_reducible rfl
  try simp only[Act.put,sAr,sZe,sSu]
 refine am (v:=?_) (by kernel_rfl) ?_ ?_;rotate_left
 ·intro w' hC;obtain⟨j0,j1,j2,j3,j4,j5⟩:=HS.out w' hC;have d:=HD.out w' hC;go_simp;try with_reducible rfl
 try simp only[Act.put,sAr,sZe,sSu]
 refine am (v:=?_) (by kernel_rfl) ?_ ?_;rotate_left
 ·intro w' hC;go_simp;try with_reducible rfl
 try simp only[Act.put,sAr,sZe,sSu]
 refine am (v:=.int .i64 ((nc:Int)-1)) (by kernel_rfl) ?_ ?_
 ·intro w' hC;go_simp
  (rw[IntKind.wrap_i64];omega)
 try simp only[Act.put,sAr,sZe,sSu]
 by_cases h2:0<=sp/\sp<=(nc:Int)-1
 case neg=>
  have HX:Hid (r=false):=by show r=false;rw[HR.out];exact aJ (specP_none (by
   cases e:insD fs f sp with
   | none=>rfl
   | some x=>
         obtain⟨f',p',hf',hp',e1,rfl,rfl⟩:=fG e;obtain rfl:f=f':=by omega
         exact absurd ⟨by omega,by have:=HNC.out;omega⟩ h2))
  refine am (v:=.bool false) (by kernel_rfl) ?_ ?_
  ·intro w' hC;go_simp;refine (eC (lo:=0) (hi:=(nc:Int)-1) h2 w').mono ?_;rintro e w'' ⟨rfl,rfl⟩;exact⟨rfl,hC⟩
  try simp only[Act.put,sAr,sZe,sSu]
  iterate 2
   refine am (v:=?_) (by kernel_rfl) ?_ ?_;rotate_left
   ·intro w' hC;go_simp;try with_reducible rfl
   try simp only[Act.put,sAr,sZe,sSu]
  refine wpQuiet_nil ?_;intro w2 q2;obtain rfl:=HX.out;clear h2 d3 d3' hcode hi1 hi2;go_wp2;go_ret
  exact⟨rfl,hB.trans (q2.mono hB.size)⟩
 refine am (v:=.bool true) (by kernel_rfl) ?_ ?_
 ·intro w' hC;go_simp;refine (dY (lo:=0) (hi:=(nc:Int)-1) h2 w').mono ?_;rintro e w'' ⟨rfl,rfl⟩;exact⟨rfl,hC⟩
 try simp only[Act.put,sAr,sZe,sSu]
 iterate 2
  refine am (v:=?_) (by kernel_rfl) ?_ ?_;rotate_left
  ·intro w' hC;go_simp;try with_reducible rfl
  try simp only[Act.put,sAr,sZe,sSu]
 refine wpQuiet_nil ?_;intro w2 q2;obtain⟨p,rfl⟩:∃p:Nat,sp=p:=⟨sp.toNat,by omega⟩;have hp:p<fs[f].code.length:=by have:=HNC.out;omega
 have hp2:p<nc:=by omega
 obtain⟨b2,off2,rfl,-,e1,e2⟩:=hcode p hp;have HI:Hid (dh fs ⟨f,p,kd,tg⟩↔_):=specP_iff hf hp;obtain⟨op,hop⟩:∃op,op=fs[f].code[p].1:=⟨_,rfl⟩;obtain⟨ar,har⟩:∃ar,ar=fs[f].code[p].2:=⟨_,rfl⟩;rw[<-hop] at e1 HI;rw[<-har] at e2 HI;have HB2:Hid (Below w.heap.size w w2):=hB.trans (q2.mono hB.size);have HZ:Hid (w.heap.size+2<=w2.heap.size):=Nat.le_trans HZ0.out q2.size;have HS3:Hid (∀w',Below (w.heap.size+2) w2 w'->w'.cell? ⟨w.heap.size,0,none⟩=some (.slice a1 nt c1)/\w'.cell? ⟨w.heap.size,1,none⟩=some (.slice (some ⟨b,off,none⟩) nf c2)/\w'.cell? ⟨w.heap.size+1,0,none⟩=some (.int .i64 f)/\w'.cell? ⟨w.heap.size+1,1,none⟩=some (.int .i64 p)/\w'.cell? ⟨w.heap.size+1,2,none⟩=some (.int .i64 kd)/\w'.cell? ⟨w.heap.size+1,3,none⟩=some (.int .i64 tg)):=fun w' q=>HS2.out w' ((q2.mono HZ0.out).trans q)
 have HE:Hid (∀w',Below w.heap.size w2 w'->w'.cell? ⟨b,off+f*3+2,none⟩=some (.slice (some ⟨b2,off2,none⟩) nc cc)/\w'.cell? ⟨b2,off2+p*2,none⟩=some (.int .i64 op)/\w'.cell? ⟨b2,off2+p*2+1,none⟩=some (.int .i64 ar)):=fun w' q=>by
  have q':=HB2.out.trans q;exact⟨cell_later q' d3,cell_later q' e1,cell_later q' e2⟩
 have HPAR:Hid (∀(t:Nat) (h:t<fs.length) w',Below w.heap.size w2 w'->w'.cell? ⟨b,off+t*3,none⟩=some (.int .i64 fs[t].params)):=fun t h w' q=>by
  obtain⟨b',off',ca',cc',he,-,x1,-⟩:=hm t h
  cases he;exact cell_later (HB2.out.trans q) x1
 clear hop har h2 d3 d3' e1 e2 hcode hm hc HD q2 HS HS2 HZ0 hcl hp HNC hf;obtain⟨j0,j1,j2,j3,j4,j5⟩:=HS3.out w2 b_r;obtain⟨k0,k1,k2⟩:=HE.out w2 b_r;have q:Below w2.heap.size w2 w2.drew:=b_r.drew;go_upto_region 3 with fail
 go_cut [5] from 29 to 40 (fun s5 wx=>∃g,s5=.pointer (some ⟨g,0,none⟩)/\wx.heap[g]?=some (.cells #[.int .i64 op,.int .i64 ar] 263 (0,0))/\Below w2.heap.size w2 wx)
 case first=>
  go_region_held3 (fun w'=>(w'.cell? ⟨w.heap.size,0,none⟩=some (.slice a1 nt c1)/\w'.cell? ⟨w.heap.size,1,none⟩=some (.slice (some ⟨b,off,none⟩) nf c2)/\w'.cell? ⟨w.heap.size+1,0,none⟩=some (.int .i64 f)/\w'.cell? ⟨w.heap.size+1,1,none⟩=some (.int .i64 p)/\w'.cell? ⟨w.heap.size+1,2,none⟩=some (.int .i64 kd)/\w'.cell? ⟨w.heap.size+1,3,none⟩=some (.int .i64 tg))/\w'.cell? ⟨b,off+f*3+2,none⟩=some (.slice (some ⟨b2,off2,none⟩) nc cc)/\w'.cell? ⟨b2,off2+p*2,none⟩=some (.int .i64 op)/\w'.cell? ⟨b2,off2+p*2+1,none⟩=some (.int .i64 ar))
   (first
    | exact⟨⟨j0,j1,j2,j3,j4,j5⟩,k0,k1,k2⟩
    | exact⟨HS3.out _ (q.mono HZ.out),HE.out _ (q.mono HB2.out.size)⟩
    | exact⟨HS3.out _ ((q.mono HZ.out).alloc (Nat.le_trans HZ.out q.size) _),HE.out _ ((q.mono HB2.out.size).alloc (Nat.le_trans HB2.out.size q.size) _)⟩
    | exact⟨HS3.out _ ((((q.mono HZ.out).alloc (Nat.le_trans HZ.out q.size) _).setCell (Nat.le_trans HZ.out q.size) _).setCell (Nat.le_trans HZ.out q.size) _),HE.out _ ((((q.mono HB2.out.size).alloc (Nat.le_trans HB2.out.size q.size) _).setCell (Nat.le_trans HB2.out.size q.size) _).setCell (Nat.le_trans HB2.out.size q.size) _)⟩)
   (fail)
  all_goals
   go_wp2_with fail
   go_meet
   case rel=>
    first
     | exact⟨_,rfl,al _ _ _,q.alloc q.size _⟩
     | trace_state
 case rest=>
  obtain⟨g,rfl,hG,hq⟩:=hcut;have HB3:Hid (Below w.heap.size w wc):=HB2.out.trans (hq.mono HB2.out.size);have c0:=ae hG;clear j0 j1 j2 j3 j4 j5 q k0 k1 k2
  have HS4:Hid (∀w',Below wc.heap.size wc w'->(w'.cell? ⟨w.heap.size,0,none⟩=some (.slice a1 nt c1)/\w'.cell? ⟨w.heap.size,1,none⟩=some (.slice (some ⟨b,off,none⟩) nf c2)/\w'.cell? ⟨w.heap.size+1,0,none⟩=some (.int .i64 f)/\w'.cell? ⟨w.heap.size+1,1,none⟩=some (.int .i64 p)/\w'.cell? ⟨w.heap.size+1,2,none⟩=some (.int .i64 kd)/\w'.cell? ⟨w.heap.size+1,3,none⟩=some (.int .i64 tg))/\w'.cell? ⟨g,0,none⟩=some (.int .i64 op)/\w'.cell? ⟨g,1,none⟩=some (.int .i64 ar)):=fun w' q=>
   ⟨HS3.out w' ((hq.mono HZ.out).trans (q.mono (Nat.le_trans HZ.out hq.size))),ckb hG q rfl,ckb hG q rfl⟩
  have HP4:Hid (∀(t:Nat) (h:t<fs.length) w',Below wc.heap.size wc w'->w'.cell? ⟨b,off+t*3,none⟩=some (.int .i64 fs[t].params)):=fun t h w' q=>HPAR.out t h w' ((hq.mono HB2.out.size).trans (q.mono (Nat.le_trans HB2.out.size hq.size)))
  obtain⟨⟨j0,j1,j2,j3,j4,j5⟩,k0,k1⟩:=HS4.out wc b_r;clear HS3 HE hq HB2 hG HPAR HZ c0 hB;have YES:((kd=1/\(11<=op/\op<=14)/\tg=0)\/(kd=2/\op=23/\du fs tg ar))->r=true:=fun h=>by rw[HR.out];exact aL (HI.out.2 h)
  have NO:¬((kd=1/\(11<=op/\op<=14)/\tg=0)\/(kd=2/\op=23/\du fs tg ar))->r=false:=fun h=>by rw[HR.out];exact aJ (fun h'=>h (HI.out.1 h'))
  have HY:Hid (((kd=1/\(11<=op/\op<=14)/\tg=0)\/(kd=2/\op=23/\du fs tg ar))->r=true):=YES;have HN:Hid (¬((kd=1/\(11<=op/\op<=14)/\tg=0)\/(kd=2/\op=23/\du fs tg ar))->r=false):=NO;clear YES NO HI HR;by_cases h1:kd=1
  case pos=>
   subst h1;by_cases hA:11<=op/\op<=14\/op=23
   case neg=>
    obtain rfl:=HN.out (fun h=>by omega);have HA:Hid (¬(11<=op/\op<=14\/op=23)):=hA;clear hA HY HN;go_wp2_with (go_at_call 259;refine (is_no HA.out _).mono ?_;rintro e w' ⟨rfl,rfl⟩)
    go_ret
    exact⟨rfl,HB3.out⟩
   have HA:Hid (11<=op/\op<=14\/op=23):=hA;by_cases h23:op=23
   ·obtain rfl:=HN.out (fun h=>by omega);subst h23;clear hA HY HN;go_wp2_with (go_at_call 259;refine (gO HA.out _).mono ?_;rintro e w' ⟨rfl,rfl⟩)
    go_ret
    exact⟨rfl,HB3.out⟩
   have k23:(op != 23)=true:=by simpa using h23
   by_cases ht:tg=0
   ·subst ht;obtain rfl:=HY.out (.inl ⟨rfl,by omega,rfl⟩);clear hA HY HN;go_wp2_with (go_at_call 259;refine (gO HA.out _).mono ?_;rintro e w' ⟨rfl,rfl⟩)
    go_ret
    exact⟨by first | rfl | exact ax (by first | rfl | (simp;done) | (simp;omega) | simp_all),HB3.out⟩
   ·obtain rfl:=HN.out (fun h=>by omega);clear hA HY HN;go_wp2_with (go_at_call 259;refine (gO HA.out _).mono ?_;rintro e w' ⟨rfl,rfl⟩)
    go_ret
    exact⟨by first | rfl | exact ax (by first | rfl | (simp;done) | (simp;omega) | simp_all),HB3.out⟩
  by_cases h2:kd=2
  case neg=>
   obtain rfl:=HN.out (fun h=>by omega);go_wp2;go_ret
   exact⟨rfl,HB3.out⟩
  subst h2;go_upto_region 8 with fail
  refine aB (by kernel_rfl) (by kernel_rfl) ?_
  iterate 2
   refine am (v:=?_) (by kernel_rfl) ?_ ?_;rotate_left
   ·intro w' hC;obtain⟨⟨j0,j1,j2,j3,j4,j5⟩,k0,k1⟩:=HS4.out w' hC;go_simp;try with_reducible rfl
   try simp only[Act.put,sAr,sZe,sSu]
  by_cases h23:op=23
  case neg=>
   obtain rfl:=HN.out (fun h=>by omega);have k23:(op == 23)=false:=by simpa using h23
   iterate 2
    refine am (v:=?_) (by kernel_rfl) ?_ ?_;rotate_left
    ·intro w' hC;go_simp;try with_reducible rfl
    try simp only[Act.put,sAr,sZe,sSu]
   iterate 7 go_big_quiet_skip
   iterate 2
    refine am (v:=?_) (by kernel_rfl) ?_ ?_;rotate_left
    ·intro w' hC;go_simp;try with_reducible rfl
    try simp only[Act.put,sAr,sZe,sSu]
   iterate 10 go_big_quiet_skip
   iterate 2
    refine am (v:=?_) (by kernel_rfl) ?_ ?_;rotate_left
    ·intro w' hC;go_simp;try with_reducible rfl
    try simp only[Act.put,sAr,sZe,sSu]
   refine wpQuiet_nil ?_;intro w2 q2;go_wp2;go_ret
   exact⟨rfl,HB3.out.trans (q2.mono HB3.out.size)⟩
  subst h23
  iterate 2
   refine am (v:=?_) (by kernel_rfl) ?_ ?_;rotate_left
   ·intro w' hC;go_simp;try with_reducible rfl
   try simp only[Act.put,sAr,sZe,sSu]
  iterate 5
   refine am (v:=?_) (by kernel_rfl) ?_ ?_;rotate_left
   ·intro w' hC;obtain⟨⟨j0,j1,j2,j3,j4,j5⟩,k0,k1⟩:=HS4.out w' hC;go_simp;try with_reducible rfl
   try simp only[Act.put,sAr,sZe,sSu]
  refine am (v:=.int .i64 ((nf:Int)-1)) (by kernel_rfl) ?_ ?_
  ·intro w' hC;go_simp
   (rw[IntKind.wrap_i64];omega)
  try simp only[Act.put,sAr,sZe,sSu]
  by_cases hT:0<=tg/\tg<=(nf:Int)-1
  case neg=>
   obtain rfl:=HN.out (fun h=>by
    rcases h with h | ⟨-,-,h3,hf,-⟩
    ·omega
    ·have:=HNF.out;omega)
   refine am (v:=.bool false) (by kernel_rfl) ?_ ?_
   ·intro w' hC;go_simp;refine (eC (lo:=0) (hi:=(nf:Int)-1) hT w').mono ?_;rintro e w'' ⟨rfl,rfl⟩;exact⟨rfl,hC⟩
   try simp only[Act.put,sAr,sZe,sSu]
   iterate 2
    refine am (v:=?_) (by kernel_rfl) ?_ ?_;rotate_left
    ·intro w' hC;go_simp;try with_reducible rfl
    try simp only[Act.put,sAr,sZe,sSu]
   iterate 10 go_big_quiet_skip
   iterate 2
    refine am (v:=?_) (by kernel_rfl) ?_ ?_;rotate_left
    ·intro w' hC;go_simp;try with_reducible rfl
    try simp only[Act.put,sAr,sZe,sSu]
   refine wpQuiet_nil ?_;intro w2 q2;go_wp2;go_ret
   exact⟨rfl,HB3.out.trans (q2.mono HB3.out.size)⟩
  refine am (v:=.bool true) (by kernel_rfl) ?_ ?_
  ·intro w' hC;go_simp;refine (dY (lo:=0) (hi:=(nf:Int)-1) hT w').mono ?_;rintro e w'' ⟨rfl,rfl⟩;exact⟨rfl,hC⟩
  try simp only[Act.put,sAr,sZe,sSu]
  obtain⟨t,rfl⟩:∃t:Nat,tg=t:=⟨tg.toNat,by omega⟩;have ht:t<fs.length:=by have:=HNF.out;omega
  have hi3:(0:Int)<=(t:Int):=by omega
  have hi4:(t:Int)<(nf:Int):=by omega
  clear hT;have HP5:Hid (∀w',Below wc.heap.size wc w'->w'.cell? ⟨b,off+t*3,none⟩=some (.int .i64 fs[t].params)):=HP4.out t ht;have HTK:Hid (du fs t ar↔fs[t].params=ar):=by
   show _↔_
   exact⟨fun h=>by obtain⟨-,hf,he⟩:=h;simpa using he,fun h=>⟨by omega,by simpa using ht,by simpa using h⟩⟩
  obtain⟨pr,hpr⟩:∃pr,pr=fs[t].params:=⟨_,rfl⟩;rw[<-hpr] at HP5 HTK;clear hpr HP4
  iterate 2
   refine am (v:=?_) (by kernel_rfl) ?_ ?_;rotate_left
   ·intro w' hC;go_simp;try with_reducible rfl
   try simp only[Act.put,sAr,sZe,sSu]
  iterate 9
   refine am (v:=?_) (by kernel_rfl) ?_ ?_;rotate_left
   ·intro w' hC;obtain⟨⟨j0,j1,j2,j3,j4,j5⟩,k0,k1⟩:=HS4.out w' hC;have d:=HP5.out w' hC;go_simp;try with_reducible rfl
   try simp only[Act.put,sAr,sZe,sSu]
  by_cases hE:pr=ar
  case pos=>
   obtain rfl:=HY.out (.inr ⟨rfl,rfl,HTK.out.2 hE⟩);have kE:(pr == ar)=true:=by simpa using hE
   clear hE;refine am (v:=.bool true) (by kernel_rfl) ?_ ?_
   ·intro w' hC;go_simp
   try simp only[Act.put,sAr,sZe,sSu]
   iterate 2
    refine am (v:=?_) (by kernel_rfl) ?_ ?_;rotate_left
    ·intro w' hC;go_simp;try with_reducible rfl
    try simp only[Act.put,sAr,sZe,sSu]
   refine wpQuiet_nil ?_;intro w2 q2;go_wp2;go_ret
   exact⟨rfl,HB3.out.trans (q2.mono HB3.out.size)⟩
  obtain rfl:=HN.out (fun h=>by
   rcases h with h | ⟨-,-,h3⟩
   ·omega
   ·exact hE (HTK.out.1 h3))
  have kE:(pr == ar)=false:=by simpa using hE
  clear hE;refine am (v:=.bool false) (by kernel_rfl) ?_ ?_
  ·intro w' hC;go_simp
  try simp only[Act.put,sAr,sZe,sSu]
  iterate 2
   refine am (v:=?_) (by kernel_rfl) ?_ ?_;rotate_left
   ·intro w' hC;go_simp;try with_reducible rfl
   try simp only[Act.put,sAr,sZe,sSu]
  refine wpQuiet_nil ?_;intro w2 q2;go_wp2;go_ret
  exact⟨rfl,HB3.out.trans (q2.mono HB3.out.size)⟩
end Go.Proofs.YtbjmgmmekmfjhaaGreatDoor
