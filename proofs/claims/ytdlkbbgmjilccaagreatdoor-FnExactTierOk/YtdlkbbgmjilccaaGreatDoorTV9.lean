/- TV9 -/
import Derived.Test.YtdlkbbgmjilccaaGreatDoorTV8
set_option maxHeartbeats 32000000
set_option maxRecDepth 100000
namespace Go.Proofs.YtdlkbbgmjilccaaGreatDoor
open Go.RowKit
theorem si_eq{v u:Si}:v=u↔v.f=u.f/\v.pc=u.pc/\v.seen=u.seen/\v.target=u.target:=by
 cases v;cases u;simp
theorem eB(P Q:Prop):pB (P/\Q)=(pB P && pB Q):=by
 rw[Bool.eq_iff_iff];simp[pB]
theorem fO(a b:Int):(a == b)=pB (a=b):=by
 rw[Bool.eq_iff_iff];simp[pB]
theorem guard44:Tryz.prog.eqGuardType Tryz.prog.depth 171=false:=by kernel_rfl
theorem fN(v u:Si)(W:World):(Op.equalIn 10000 171 (.agg #[.int .i64 v.f,.int .i64 v.pc,.int .i64 v.seen,.int .i64 v.target]) (.agg #[.int .i64 u.f,.int .i64 u.pc,.int .i64 u.seen,.int .i64 u.target])).run Tryz.prog W=.ok (pB (v=u)) W:=by
 have h:∀d:Nat,(Op.equalIn (d+1+1) 171 (.agg #[.int .i64 v.f,.int .i64 v.pc,.int .i64 v.seen,.int .i64 v.target]) (.agg #[.int .i64 u.f,.int .i64 u.pc,.int .i64 u.seen,.int .i64 u.target])).run Tryz.prog W=.ok (pB (v=u)) W:=fun d=>by
  have ht:Tryz.prog.underlying 171=some (.struct (Tryz.prog.fieldsOf 171)):=by kernel_rfl
  have hp:Tryz.prog.stoodInHeld 171=false:=by kernel_rfl
  have hf : (Tryz.prog.fieldsOf 171).toList.map (fun f => (f.name, f.type, f.offset)) = [("Func", 3, 0), ("Pc", 3, 1), ("Kind", 3, 2), ("Target", 3, 3)] := by kernel_rfl
  rw[run_equalIn_struct W (d+1) 171 _ _ ht hp];have p0:∀(a b c e:Int) (W:World),(part 3 #[.int .i64 a,.int .i64 b,.int .i64 c,.int .i64 e] 0).run Tryz.prog W=.ok (.int .i64 a) W:=fun _ _ _ _ _=>by kernel_rfl
  have p1:∀(a b c e:Int) (W:World),(part 3 #[.int .i64 a,.int .i64 b,.int .i64 c,.int .i64 e] 1).run Tryz.prog W=.ok (.int .i64 b) W:=fun _ _ _ _ _=>by kernel_rfl
  have p2:∀(a b c e:Int) (W:World),(part 3 #[.int .i64 a,.int .i64 b,.int .i64 c,.int .i64 e] 2).run Tryz.prog W=.ok (.int .i64 c) W:=fun _ _ _ _ _=>by kernel_rfl
  have p3:∀(a b c e:Int) (W:World),(part 3 #[.int .i64 a,.int .i64 b,.int .i64 c,.int .i64 e] 3).run Tryz.prog W=.ok (.int .i64 e) W:=fun _ _ _ _ _=>by kernel_rfl
  rcases hL:(Tryz.prog.fieldsOf 171).toList with _ | ⟨f1,_ | ⟨f2,_ | ⟨f3,_ | ⟨f4,_ | _⟩⟩⟩⟩
  ·rw[hL] at hf;simp at hf
  ·rw[hL] at hf;simp at hf
  ·rw[hL] at hf;simp at hf
  ·rw[hL] at hf;simp at hf
  ·rw[hL] at hf;simp only[List.map_cons,List.map_nil,List.cons.injEq,Prod.mk.injEq,and_true] at hf
   obtain⟨⟨n1,t1,o1⟩,⟨n2,t2,o2⟩,⟨n3,t3,o3⟩,n4,t4,o4⟩:=hf;have e1:=run_equalIn_int (P:=Tryz.prog) W d 3 .i64 .i64 v.f u.f Tryz.underlying3;have e2:=run_equalIn_int (P:=Tryz.prog) W d 3 .i64 .i64 v.pc u.pc Tryz.underlying3;have e3:=run_equalIn_int (P:=Tryz.prog) W d 3 .i64 .i64 v.seen u.seen Tryz.underlying3;have e4:=run_equalIn_int (P:=Tryz.prog) W d 3 .i64 .i64 v.target u.target Tryz.underlying3;rw[fO] at e1 e2 e3 e4;have hb:pB (v=u)=(pB (v.f=u.f) && (pB (v.pc=u.pc) && (pB (v.seen=u.seen) && pB (v.target=u.target)))):=by
    rw[<-eB,<-eB,<-eB,show (v=u)=(v.f=u.f/\v.pc=u.pc/\v.seen=u.seen/\v.target=u.target) from propext si_eq]
   rw[hb]
   cases hk:pB (v.f=u.f)<;>cases hn:pB (v.pc=u.pc)<;>cases hs:pB (v.seen=u.seen)<;>cases hq:pB (v.target=u.target)<;>rw[hk] at e1<;>rw[hn] at e2<;>rw[hs] at e3<;>rw[hq] at e4 <;>
    simp[Op.eqFields,n1,t1,o1,n2,t2,o2,n3,t3,o3,n4,t4,o4,p0,p1,p2,p3,e1,e2,e3,e4]
  ·rw[hL] at hf;simp at hf
 exact h 9998
def cK (fs:List Fn)(s:Si):Prop:=dp fs s.f s.pc s.target (some s)
def fL (fs:List Fn)(ss:List Si):Prop:=(∀i (h:i<ss.length),cK fs ss[i])/\AscI ss
theorem specsOk_any(a1 a2:Option Addr)(nt c1 c2:Nat)(fs:List Fn)(a:Option Addr)(cap:Nat)(ss:List Si)(w:World)(hn:ss.length<=150)(hc:∀f∈fs,f.code.length<=1048576)(hm:FnsAt w 0 a2 fs)(hs:aS w 0 a ss) :
  Calls Tryz.prog 214 #[.agg #[.slice a1 nt c1,.slice a2 fs.length c2],.slice a ss.length cap] w fun e w'=>e=.returned (.bool (pB (fL fs ss)))/\Below w.heap.size w w':=by
 have HG:Hid (∀(f p t:Int) w',Below w.heap.size w w'->Calls Tryz.prog 221 #[.agg #[.slice a1 nt c1,.slice a2 fs.length c2],.agg #[.int .i64 f,.int .i64 p],.int .i64 t] w' (fU fs f p t w')):=fun f p t w' hb=>guessAt_any a1 a2 nt c1 c2 fs f p t w' hc (hm.mono hb)
 clear hc hm;go_enter Tryz.func214,Tryz.ntmps214
 go_wp2;go_loopw [11] (fun i wr=>∃(k:Nat),k<=ss.length/\i=.int .i64 k/\Hid (∀j (hj:j<ss.length),j<k->cK fs ss[j])/\wr.heap[w.heap.size]?=some (.cells #[.slice a1 nt c1,.slice a2 fs.length c2] 42 (0,0))/\Below w.heap.size w wr) (fun i _=>ss.length-(intOf i).toNat)
 case atStart=>exact⟨0,by omega,rfl,fun _ _ h=>absurd h (Nat.not_lt_zero _),ah _ _ _,gM.alloc nL _⟩
 case round=>
  obtain⟨k,hk,rfl,hdone,hM,hb⟩:=hrel;by_cases hlt:k<ss.length
  case neg=>
   have HD:Hid (∀i (h:i<ss.length),cK fs ss[i]):=fun i hi=>hdone.out i hi (by omega)
   clear hdone hM;go_wp2_with fail
   refine (ascSpecs_any a ss cap wr (by omega) (hs.mono hb)).mono ?_;rintro e w2 ⟨rfl,hb2⟩;have HB2:Hid (Below w.heap.size w w2):=hb.trans (hb2.mono hb.size);go_wp2;go_ret
   refine⟨aj ?_,HB2.out⟩;by_cases h:AscI ss
   ·rw[ay h,ay (show fL fs ss from ⟨HD.out,h⟩)]
   ·rw[aw h,aw (fun h':fL fs ss=>h h'.2)]
  case pos=>
   obtain⟨b,off,rfl,-,d1,d2,d3,d4⟩:=hs k hlt;have d1':=cell_later hb d1;have d2':=cell_later hb d2;have d3':=cell_later hb d3;have d4':=cell_later hb d4;clear d1 d2 d3 d4;obtain⟨w2,hw2⟩:∃w2,w2=wr.alloc (.cells #[.int .i64 ss[k].f,.int .i64 ss[k].pc,.int .i64 ss[k].seen,.int .i64 ss[k].target] 171):=⟨_,rfl⟩;have hM2:w2.heap[w.heap.size]?=some (.cells #[.slice a1 nt c1,.slice a2 fs.length c2] 42 (0,0)):=by rw[hw2];exact al hM _
   have hX2:w2.heap[wr.heap.size]?=some (.cells #[.int .i64 ss[k].f,.int .i64 ss[k].pc,.int .i64 ss[k].seen,.int .i64 ss[k].target] 171 (0,0)):=by rw[hw2];exact ah _ _ _
   have HB:Hid (Below w.heap.size w w2):=by rw[hw2];exact hb.alloc hb.size _
   have HZ:Hid (wr.heap.size+1<=w2.heap.size):=by rw[hw2];show _<=_;simp
   have hwz:w.heap.size<wr.heap.size:=by
    have:=hM;rcases Nat.lt_or_ge w.heap.size wr.heap.size with h | h
    ·exact h
    ·rw[Array.getElem?_eq_none h] at this;cases this
   have HWZ:Hid (w.heap.size<wr.heap.size):=hwz;clear hwz
   have HS:Hid (∀w',Below (wr.heap.size+1) w2 w'->w'.cell? ⟨w.heap.size,0,none⟩=some (.slice a1 nt c1)/\w'.cell? ⟨w.heap.size,1,none⟩=some (.slice a2 fs.length c2)/\w'.cell? ⟨wr.heap.size,0,none⟩=some (.int .i64 ss[k].f)/\w'.cell? ⟨wr.heap.size,1,none⟩=some (.int .i64 ss[k].pc)/\w'.cell? ⟨wr.heap.size,2,none⟩=some (.int .i64 ss[k].seen)/\w'.cell? ⟨wr.heap.size,3,none⟩=some (.int .i64 ss[k].target)):=fun w' q=>
    ⟨by rw[q.cell (by have:=HWZ.out;simp;omega),aa hM2];rfl,by rw[q.cell (by have:=HWZ.out;simp;omega),aa hM2];rfl,by rw[q.cell (by simp),aa hX2];rfl,by rw[q.cell (by simp),aa hX2];rfl,by rw[q.cell (by simp),aa hX2];rfl,by rw[q.cell (by simp),aa hX2];rfl⟩
   obtain⟨j0,j1,j2,j3,j4,j5⟩:=HS.out w2 gM;have q:Below w2.heap.size w2 w2.drew:=gM.drew;have HM2:Hid (w2.heap[w.heap.size]?=some (.cells #[.slice a1 nt c1,.slice a2 fs.length c2] 42 (0,0))):=hM2;clear hM hM2 hX2;go_upto_region 4 with fail
   rw[<-hw2];clear hw2 d1' d2' d3' d4';go_cut [7,8] from 15 to 24 (fun s7 s8 wx=>∃g r,s7=.pointer (some ⟨g,0,none⟩)/\s8=.bool (Option.isSome r)/\dp fs ss[k].f ss[k].pc ss[k].target r/\wx.heap[g]?=some (.cells (r.getD ⟨0,0,0,0⟩).cells 171 (0,0))/\Below w2.heap.size w2 wx)
   case first=>
    go_region_held3 (fun w'=>w'.cell? ⟨w.heap.size,0,none⟩=some (.slice a1 nt c1)/\w'.cell? ⟨w.heap.size,1,none⟩=some (.slice a2 fs.length c2)/\w'.cell? ⟨wr.heap.size,0,none⟩=some (.int .i64 ss[k].f)/\w'.cell? ⟨wr.heap.size,1,none⟩=some (.int .i64 ss[k].pc)/\w'.cell? ⟨wr.heap.size,2,none⟩=some (.int .i64 ss[k].seen)/\w'.cell? ⟨wr.heap.size,3,none⟩=some (.int .i64 ss[k].target))
     (first
      | exact⟨j0,j1,j2,j3,j4,j5⟩
      | exact HS.out _ (q.mono HZ.out)
      | exact HS.out _ ((q.mono HZ.out).alloc (Nat.le_trans HZ.out q.size) _)
      | exact HS.out _ (((((q.mono HZ.out).setCell (Nat.le_trans HZ.out hg) _).setCell (Nat.le_trans HZ.out hg) _).setCell (Nat.le_trans HZ.out hg) _).setCell (Nat.le_trans HZ.out hg) _)
      | exact HS.out _ ((((((q.mono HZ.out).alloc (Nat.le_trans HZ.out q.size) _).setCell (Nat.le_trans HZ.out q.size) _).setCell (Nat.le_trans HZ.out q.size) _).setCell (Nat.le_trans HZ.out q.size) _).setCell (Nat.le_trans HZ.out q.size) _))
     (first
      | (go_at_call 222;refine (dy _ _ _ _ _).mono ?_;rintro e wa ⟨rfl,kd⟩;(first | (have hk:=ab hk kd;have hc:=aa hk;have hf:=am hk) | (have hk:=ab (aY _ _ _) kd;have hg:=Nat.le_refl w2.heap.size;have hc:=aa hk;have hf:=am hk) | (have hk:=ab (ah _ _ _) kd;have hg:=q.size;have hc:=aa hk;have hf:=am hk) | skip);(first | (have q:=q.trans (kd.mono q.size)) | (have q:=(q.alloc q.size _).trans (kd.mono (by have:=q.size;simp<;>omega)))))
      | (go_at_call 221;refine (HG.out _ _ _ _ (by first | exact HB.out.trans (q.mono HB.out.size) | exact HB.out.trans ((q.alloc q.size _).mono HB.out.size))).mono ?_;rintro e wb ⟨r,hr,rfl,kd⟩;obtain⟨r0,hr0⟩:∃r0,r0=r.getD ⟨0,0,0,0⟩:=⟨_,rfl⟩;rw[<-hr0];obtain⟨r1,r2,r3,r4⟩:=r0;have HR0:Hid (r.getD ⟨0,0,0,0⟩=⟨r1,r2,r3,r4⟩):=hr0.symm;clear hr0;have HRR:Hid (dp fs ss[k].f ss[k].pc ss[k].target r):=hr;clear hr;unfold Si.cells;dsimp only;(first | (have hk:=ab hk kd;have hc:=aa hk;have hf:=am hk) | (have hk:=ab (aY _ _ _) kd;have hg:=Nat.le_refl w2.heap.size;have hc:=aa hk;have hf:=am hk) | (have hk:=ab (ah _ _ _) kd;have hg:=q.size;have hc:=aa hk;have hf:=am hk) | skip);(first | (have q:=q.trans (kd.mono q.size)) | (have q:=(q.alloc q.size _).trans (kd.mono (by have:=q.size;simp<;>omega))))))
    all_goals
     go_wp2_with fail
     go_meet
     case rel=>
      first
       | exact⟨_,r,rfl,rfl,HRR.out,by rw[HR0.out];exact ey hk,(((q.setCell hg _).setCell hg _).setCell hg _).setCell hg _⟩
       | exact⟨_,r,rfl,rfl,HRR.out,by rw[HR0.out];exact ah _ _ _,q.alloc q.size _⟩
   case rest=>
    obtain⟨g,r,rfl,rfl,hr,hG,hq⟩:=hcut;have HB2:Hid (Below w.heap.size w wc):=HB.out.trans (hq.mono HB.out.size);have HM3:Hid (wc.heap[w.heap.size]?=some (.cells #[.slice a1 nt c1,.slice a2 fs.length c2] 42 (0,0))):=ab HM2.out hq;clear j0 j1 j2 j3 j4 j5 q;obtain⟨j0,j1,j2,j3,j4,j5⟩:=HS.out wc (hq.mono HZ.out);clear HS HZ hq HB HG HM2
    cases r with
    | none=>
     have HX:Hid (¬cK fs ss[k]):=fun h=>by cases guessD_one h hr
     clear hr;go_wp2;go_ret
     exact⟨aj (aw (fun h=>HX.out (h.1 k hlt))).symm,HB2.out⟩
    | some u=>
     have g44:=guard44;have e44:=fN u ss[k];have hG':wc.heap[g]?=some (.cells #[.int .i64 u.f,.int .i64 u.pc,.int .i64 u.seen,.int .i64 u.target] 171 (0,0)):=hG;have c0:=aa hG';clear hG;by_cases hE:u=ss[k]
     ·have HX:Hid (cK fs ss[k]):=by show dp _ _ _ _ _;rw[<-hE];rw[<-hE] at hr;exact hr
      rw[ay hE] at e44;clear hr hE;go_wp2;go_roundw
      case rel=>
       refine⟨k+1,by omega,by go_num,?_,HM3.out,HB2.out⟩;intro j hj hjk;by_cases e:j=k
       ·subst e;exact HX.out
       ·exact hdone.out j hj (by omega)
      case measure=>simp[intOf];omega
     ·have HX:Hid (¬cK fs ss[k]):=fun h=>hE (Option.some.inj (guessD_one hr h))
      rw[aw hE] at e44;clear hr hE;go_wp2;go_ret
      exact⟨aj (aw (fun h=>HX.out (h.1 k hlt))).symm,HB2.out⟩
end Go.Proofs.YtdlkbbgmjilccaaGreatDoor
