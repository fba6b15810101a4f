/-
The law laws.FnExactRebuild, as it was translated from the landed commit, returns true at every argument and leaves the arguments as they were. No condition, but that the listed tables (math/bits' and the program's own shapes) hold what the program's text lays into them.
-/
import Derived.Test.YtbjmgmmekmfjhaaGreatDoorRV42
import Derived.Test.YtbjmgmmekmfjhaaGreatDoorRV52
import Derived.Test.YtbjmgmmekmfjhaaGreatDoorRV53
import Derived.Test.YtbjmgmmekmfjhaaGreatDoorCards
import Derived.Test.YtbjmgmmekmfjhaaGreatDoorTie
import Derived.ProofKit
import Derived.LaidMore
import Derived.OpenVars
import Derived.ShutString
import Derived.ChangeOld
import Derived.Below
import Derived.ChangeVars
import Derived.Stop.Joined
import Derived.SevenTiedAt
set_option maxRecDepth 100000
namespace Go.Proofs.YtbjmgmmekmfjhaaGreatDoor
open Go.ChangeShapes Go.WideShapes Go.ChangeAt Go.WideMaps Go.WideElems Go.RowKit Go.Joins
set_option linter.unusedVariables false
section
variable {H:Type} {enc:TypeId×Value->H} {P:Program} {w:World} {base:Nat} {spare:Nat->Bool} {held:Bool}
theorem read_ints{t e:TypeId}{fuel:Nat}{v:Value}{y:DataW H×List MemPlace}(ht:P.underlying t=some (.slice e))(he:P.underlying e=some (.int .i64))(hc:P.cellsOf e=1)
  (h:DataW.trod enc P w base spare held fuel t [v]=some y):∃a cap xs,v=.slice a xs.length cap/\xs.length<=maxLen/\a9 w 0 a xs:=by
 rcases open_ints ht he hc h with ⟨hcs,-⟩ | ⟨a,len,cap,zs,hcs,-,hl,hm,hz,-,hx,-⟩
 ·simp at hcs
  exact⟨none,0,[],by simpa using hcs,by simp,fun i hi=>by simp at hi⟩
 ·simp at hcs
  have hlm:len<=zs.length:=by rw[hz];split<;>omega
  refine⟨some a,cap,(List.range len).map (fun i=>zs.getD i 0),by simpa using hcs,by simp;omega,?_⟩;intro i hi;have hi':i<len:=by simpa using hi
  obtain⟨b,off,rfl⟩:=ch (hx 0 (by omega));have hcell:=hx i (by omega);rw[Go.WideShapes.add_plain] at hcell;exact⟨b,off,rfl,Nat.zero_le _,by simpa using hcell⟩
end
theorem laidOut:laidOutB Tryz.prog=true:=by kernel_rfl
theorem own:ownKnob Tryz.prog.godebug=none:=by kernel_rfl
theorem door_met(os:Os)(args:Array Value):laidMetH Tryz.prog Rows.fnExactRebuildRow.laid ((World.doorLaid Tryz.prog 400 os).forCall (fun _ _=>0) ⟨#[],args,[]⟩).memory:=
 laidMetH_of_parts3 (fuel:=8) (laidMet_of_run' 8 (by kernel_rfl) (by kernel_rfl)) (by kernel_rfl) (by kernel_rfl)
theorem lifted(os:Os)(started:os.Started)(H:Type)(enc:TypeId×Value->H) :
  ReturnsInHanded {} Tryz.checked os 5 .any (fun w args=>(Rows.fnExactRebuildSpec.pre enc Tryz.prog Tryz.f5 [] false w args/\laidMetH Tryz.prog Rows.fnExactRebuildRow.laid w)/\sizedMet enc Tryz.prog Tryz.f5 (OpenSpec.ofChange Rows.fnExactRebuildSpec) false w args)
   (Rows.fnExactRebuildSpec.post enc Tryz.prog Tryz.f5 false true false false):=by
 refine returnsInHanded_of_change_and (C:=Tryz.checked) (X:=fun w _=>laidMetH Tryz.prog Rows.fnExactRebuildRow.laid w) (fun _ _ _ hh h=>h.of_heap hh) own started (by kernel_rfl) Tryz.func5
  (ChangeSpec.witness_shaped (enc:=enc) (C:=Tryz.checked) (os:=os) (X:=fun w _=>laidMetH Tryz.prog Rows.fnExactRebuildRow.laid w) false (World.doorLaid Tryz.prog 400 os) #[.agg #[.slice none 0 0,.slice none 0 0],.agg #[.int .i64 0,.int .i64 0,.int .i64 0,.int .i64 0,.slice none 0 0,.slice none 0 0],.int .i64 0,.slice none 0 0,.slice none 0 0,.slice none 0 0] 8 rfl (World.shaped_of_RefB (by kernel_rfl) (by kernel_rfl)) (by kernel_rfl) (by kernel_rfl) (by kernel_rfl) (door_met os _)) ?_
 intro W base args ds gs before hval0 hW _ _ hL _;have hval:∀(j:Nat) t v,Tryz.f5.params[j]?=some t→args[j]?=some v→Value.okWide Tryz.prog W .any base t v:=hval0;have hW':=hW;obtain⟨p,q,hA0,hV0,rfl,hfz,hnd⟩:=hW;have hV : DataW.TrodVars enc Tryz.prog W (fun _ => true) ["loop.example/g00094/impl.shapes"] gs q := hV0
 have hA:DataW.TrodAll enc Tryz.prog W 0 (fun _=>true) true Tryz.f5.params.toList args.toList ds p:=hA0;rw[Tryz.params5] at hA hval;obtain⟨v0,vs0,d0,ds0,p0,q0,hargs0,rfl,rfl,h0,r0⟩:=trodAll_cons hA;obtain⟨v1,vs1,d1,ds1,p1,q1,hargs1,rfl,rfl,h1,r1⟩:=trodAll_cons r0;obtain⟨v2,vs2,d2,ds2,p2,q2,hargs2,rfl,rfl,h2,r2⟩:=trodAll_cons r1;obtain⟨v3,vs3,d3,ds3,p3,q3,hargs3,rfl,rfl,h3,r3⟩:=trodAll_cons r2;obtain⟨v4,vs4,d4,ds4,p4,q4,hargs4,rfl,rfl,h4,r4⟩:=trodAll_cons r3;obtain⟨v5,vs5,d5,ds5,p5,q5,hargs5,rfl,rfl,h5,r5⟩:=trodAll_cons r4;obtain⟨rfl,rfl,rfl⟩:=trodAll_nil r5;subst hargs5;subst hargs4;subst hargs3;subst hargs2;subst hargs1;obtain rfl:args=#[v0,v1,v2,v3,v4,v5]:=by cases args;simp_all
 obtain⟨g1,rfl⟩:∃g1,gs=[g1]:=by
  obtain⟨_,_,_,_,d,_,h,_⟩:=trodVars_one hV;exact⟨d,h⟩
 have k0:=h0;have lt0:∀x∈p0,x.block<W.heap.size:=by obtain⟨m,hm⟩:=k0;exact DataW.trod_lt m _ _ _ hm
 have k1:=h1;have lt1:∀x∈p1,x.block<W.heap.size:=by obtain⟨m,hm⟩:=k1;exact DataW.trod_lt m _ _ _ hm
 have k2:=h2;have lt2:∀x∈p2,x.block<W.heap.size:=by obtain⟨m,hm⟩:=k2;exact DataW.trod_lt m _ _ _ hm
 have k3:=h3;have lt3:∀x∈p3,x.block<W.heap.size:=by obtain⟨m,hm⟩:=k3;exact DataW.trod_lt m _ _ _ hm
 have k4:=h4;have lt4:∀x∈p4,x.block<W.heap.size:=by obtain⟨m,hm⟩:=k4;exact DataW.trod_lt m _ _ _ hm
 have k5:=h5;have lt5:∀x∈p5,x.block<W.heap.size:=by obtain⟨m,hm⟩:=k5;exact DataW.trod_lt m _ _ _ hm
 obtain⟨u0,u1,y0,y1,n,rfl,hd,-,t0,t1⟩:=open_agg2 Tryz.underlying25 (by kernel_rfl) (by kernel_rfl) (hval 0 25 v0 rfl rfl) h0;obtain⟨a1,c1,ts,rfl,hn1,hs1,hm1⟩:=read_strs Tryz.underlying22 Tryz.underlying9 (by kernel_rfl) t0
 obtain⟨a2,c2,fs,rfl,hn2,hs2,hm2⟩:=read_fns Tryz.underlying23 Tryz.underlying147 (by kernel_rfl) rfl rfl rfl (by kernel_rfl) (by kernel_rfl) (by kernel_rfl) Tryz.underlying3 Tryz.underlying3 rfl
  Tryz.underlying145 Tryz.underlying296 (by kernel_rfl) rfl rfl (by kernel_rfl) (by kernel_rfl) Tryz.underlying3 Tryz.underlying3 t1
 obtain⟨oa,ea,oc,ec,D,rfl,hfm,hf0⟩:=open_fast (hval 1 29 v1 rfl rfl) h1;obtain⟨x,rfl,-,-,-⟩:=open_int Tryz.underlying3 (hval 2 3 v2 rfl rfl) h2;obtain⟨va0,vn0,vc0,rfl⟩:=okWide_slice Tryz.underlying54 (hval 3 54 v3 rfl rfl);obtain⟨fuel3,hf3⟩:=h3;obtain⟨va,vc,vals,hveq3,hvm,hva0⟩:=read_values fuel3 _ _ (show DataW.trod enc Tryz.prog W 0 (fun _=>true) true fuel3 54 [.slice va0 vn0 vc0]=some (d3,p3) by simpa[Value.cells] using hf3)
 rw[hveq3] at hf3 hW' k3 ⊢;obtain⟨na0,nn0,nc0,rfl⟩:=okWide_slice Tryz.underlying50 (hval 4 50 v4 rfl rfl);obtain⟨fuel4,hf4⟩:=h4;obtain⟨na,nc,nums,hveq4,hnm,hna0⟩:=read_ints Tryz.underlying50 Tryz.underlying3 (by kernel_rfl) (show DataW.trod enc Tryz.prog W 0 (fun _=>true) true fuel4 50 [.slice na0 nn0 nc0]=some (d4,p4) by simpa[Value.cells] using hf4)
 rw[hveq4] at hf4 hW' k4 ⊢;obtain⟨ha0,hn0,hc0,rfl⟩:=okWide_slice Tryz.underlying55 (hval 5 55 v5 rfl rfl);obtain⟨fuel5,hf5⟩:=h5;obtain⟨ha,hcp,hs,hveq5,hhm,hhc,hH0⟩:=read_recs (tv:=54) Tryz.underlying55 Tryz.underlying120 (by kernel_rfl) rfl cells54 rfl read_values (show DataW.trod enc Tryz.prog W 0 (fun _=>true) true fuel5 55 [.slice ha0 hn0 hc0]=some (d5,p5) by simpa[Value.cells] using hf5)
 rw[hveq5] at hf5 hW' k5 ⊢;obtain⟨hSh,hDB⟩:=of_laid rfl hL;clear hA0 hval0;refine (lawRebuild sFast_any a1 a2 oa ea va na ha ts fs D x vals nums hs c1 c2 oc ec vc nc hcp W hn1 hs1 hm1 hn2 hs2 hm2 hfm hf0 hvm hva0 hnm hna0 hhm hhc hH0 hSh hDB).mono fun e W' ⟨he,bel⟩=>?_
 subst he;exact⟨_,rfl,_,_,_,[],_,_,hW',trodAll_mk1 (shut_bool Tryz.underlying4 _),(trodAll_cons_mk (Below.trod laidOut (by kernel_rfl) (of_decide_eq_true (by kernel_rfl)) k0 bel lt0) (trodAll_cons_mk (Below.trod laidOut (by kernel_rfl) (of_decide_eq_true (by kernel_rfl)) k1 bel lt1) (trodAll_cons_mk (Below.trod laidOut (by kernel_rfl) (of_decide_eq_true (by kernel_rfl)) k2 bel lt2) (trodAll_cons_mk (Below.trod laidOut (by kernel_rfl) (of_decide_eq_true (by kernel_rfl)) k3 bel lt3) (trodAll_cons_mk (Below.trod laidOut (by kernel_rfl) (of_decide_eq_true (by kernel_rfl)) k4 bel lt4) (trodAll_cons_mk (Below.trod laidOut (by kernel_rfl) (of_decide_eq_true (by kernel_rfl)) k5 bel lt5) trodAll_mk0)))))),Below.trodVars laidOut bel (by kernel_rfl) hV,bel.frame _,fun h=>by cases h⟩
theorem over:Rows.FnExactRebuildSaid:=
 OpenClaim.holds_of_wide 5 Tryz.f5 rfl rfl rfl rfl rfl rfl rfl ⟨rfl,rfl,rfl,rfl,rfl⟩ rfl rfl rfl rfl rfl (by kernel_rfl) Tryz.func5 facts
  (of_decide_eq_true (by kernel_rfl)) (by unfold Func.isWrapper;first | (rw[if_pos (by decide +kernel)];kernel_rfl) | (rw[if_neg (by decide +kernel)];exact⟨rfl,rfl⟩))
  (fun os started H enc _=>lifted os started H enc)
theorem fnExactRebuild_holds:Rows.FnExactRebuildCardSaid:=
 Claim7.holds_tied_plain_at .later [] [.data, .data] true (true, "104cb62c62a58a74a7a544b5b22e3d489b95690b8974a6481f8a150c0184b88d") false
  over (fun _ h=>by cases h) (by kernel_rfl) (fun _ h=>by cases h) fnExactRebuild_row_tie rfl ⟨rfl,rfl⟩ (by kernel_rfl) rfl
  (fun f fn hf hfn=>by
   obtain rfl : f = 5 := Option.some.inj ((show Tryz.prog.funcNamed "loop.example/g00094/laws.FnExactRebuild" = some 5 by kernel_rfl).symm.trans hf) |>.symm
   obtain rfl:fn=Tryz.f5:=(Option.some.inj (Tryz.func5.symm.trans hfn)).symm;exact⟨by kernel_rfl,fun j t ht=>by
    rw[Tryz.params5] at ht;have hm:t∈[25,29,3,54,50,55]:=by simpa using Array.mem_of_getElem? ht
    have hall:([25,29,3,54,50,55].all fun u=>!Tryz.prog.wantsStandIn u)=true:=by kernel_rfl
    exact (show Tryz.prog.wantsStandIn t=false by simpa using List.all_eq_true.1 hall t hm)⟩)
  (by kernel_rfl)
#print axioms fnExactRebuild_holds
end Go.Proofs.YtbjmgmmekmfjhaaGreatDoor
