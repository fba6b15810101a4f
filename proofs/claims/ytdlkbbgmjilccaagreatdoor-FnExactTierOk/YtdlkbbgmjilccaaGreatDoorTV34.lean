/- TV34 -/
import Derived.Test.YtdlkbbgmjilccaaGreatDoorTV33
set_option maxHeartbeats 32000000
set_option maxRecDepth 100000
namespace Go.Proofs.YtdlkbbgmjilccaaGreatDoor
open Go.RowKit
section
variable {fs:List Fn} {D:aH} {a1 a2 oa ea fa ra:Option Addr} {nt c1 c2 oc ec G base K nfr fc nr rc:Nat} {w:World}
theorem frameOk_i(i:Nat)(x:EF)(la sa:Option Addr)(lc sc:Nat)(hsm:cz x)(hl:bq w 0 la x.locals)(hs:bq w 0 sa x.stack)(hi:i<nfr)(hnf:nfr<=1048576)(h:Look fs D a1 a2 oa ea nt c1 c2 oc ec G base K w)(lim:Lim fs D) :
  Calls Tryz.prog 192 #[.agg #[.pointer (some ⟨K,0,none⟩),.slice fa nfr fc,.slice ra nr rc],.int .i64 (i:Nat),.agg #[.int .i64 x.fn,.int .i64 x.pc,.slice la x.locals.length lc,.slice sa x.stack.length sc]] w fun e w'=>e=.returned (.bool (pB (cJ fs D nr x (decide ((i:Int)=(nfr:Int)-1)))))/\Below w.heap.size w w':=by
 obtain⟨wA,hwA⟩:∃wA,wA=(w.alloc (.cells #[.pointer (some ⟨K,0,none⟩),.slice fa nfr fc,.slice ra nr rc] 308)).alloc (.cells #[.int .i64 x.fn,.int .i64 x.pc,.slice la x.locals.length lc,.slice sa x.stack.length sc] 227):=⟨_,rfl⟩;have hbA:Below w.heap.size w wA:=by rw[hwA];exact (gM.alloc nL _).alloc (by simp) _
 have hX:wA.heap[w.heap.size]?=some (.cells #[.pointer (some ⟨K,0,none⟩),.slice fa nfr fc,.slice ra nr rc] 308 (0,0)):=by rw[hwA];exact al (ah _ _ _) _
 have hF:wA.heap[w.heap.size+1]?=some (.cells #[.int .i64 x.fn,.int .i64 x.pc,.slice la x.locals.length lc,.slice sa x.stack.length sc] 227 (0,0)):=by rw[hwA];exact ax _ _ _ _ (by simp)
 have hk:=h.mono hbA;have HB:Hid (Below w.heap.size w wA):=hbA;have HS:Hid (∀w',Below wA.heap.size wA w'->w'.cell? ⟨w.heap.size,0,none⟩=some (.pointer (some ⟨K,0,none⟩))/\w'.cell? ⟨w.heap.size,1,none⟩=some (.slice fa nfr fc)/\w'.cell? ⟨w.heap.size,2,none⟩=some (.slice ra nr rc)/\w'.cell? ⟨w.heap.size+1,0,none⟩=some (.int .i64 x.fn)/\w'.cell? ⟨w.heap.size+1,1,none⟩=some (.int .i64 x.pc)/\w'.cell? ⟨w.heap.size+1,2,none⟩=some (.slice la x.locals.length lc)/\w'.cell? ⟨w.heap.size+1,3,none⟩=some (.slice sa x.stack.length sc)/\w'.cell? ⟨K,0,none⟩=some (.slice a1 nt c1)/\w'.cell? ⟨K,1,none⟩=some (.slice a2 fs.length c2)/\w'.cell? ⟨K,2,none⟩=some (.slice (some ⟨G,0,none⟩) fs.length fs.length)):=fun w' q=>⟨aa (ab hX q) 0,aa (ab hX q) 1,aa (ab hX q) 2,aa (ab hF q) 0,aa (ab hF q) 1,aa (ab hF q) 2,aa (ab hF q) 3,(hk.mono q).cells 0,(hk.mono q).cells 1,(hk.mono q).cells 2⟩
 obtain⟨last,hlast⟩:∃last,last=decide ((i:Int)=(nfr:Int)-1):=⟨_,rfl⟩;rw[<-hlast];have hw1:IntKind.i64.wrap ((nfr:Int)-1)=(nfr:Int)-1:=by rw[IntKind.wrap_i64];omega
 have HC0:Hid (∀w',Below wA.heap.size wA w'->Calls Tryz.prog 106 #[.agg #[.slice a1 nt c1,.slice a2 fs.length c2],.slice (some ⟨G,0,none⟩) fs.length fs.length,.int .i64 x.fn,.int .i64 x.pc,.int .i64 x.locals.length,.int .i64 x.stack.length,.bool last] w' fun e w''=>e=.returned (.bool (pB (Fits fs x.fn x.pc x.locals.length x.stack.length last)))/\Below w'.heap.size w' w''):=fun w' q=>fitsB_any _ _ _ _ _ (hk.mono q) lim
 have HC1:Hid (∀w',Below wA.heap.size wA w'->Calls Tryz.prog 215 #[.agg #[.pointer (some ⟨K,0,none⟩),.slice fa nfr fc,.slice ra nr rc],.slice la x.locals.length lc] w' fun e w''=>e=.returned (.bool (pB (dX fs.length D nr x.locals)))/\Below w'.heap.size w' w''):=fun w' q=>cQ la x.locals lc hsm.1 ((hl.mono hbA).mono q) (hk.mono q)
 have HC2:Hid (∀w',Below wA.heap.size wA w'->Calls Tryz.prog 215 #[.agg #[.pointer (some ⟨K,0,none⟩),.slice fa nfr fc,.slice ra nr rc],.slice sa x.stack.length sc] w' fun e w''=>e=.returned (.bool (pB (dX fs.length D nr x.stack)))/\Below w'.heap.size w' w''):=fun w' q=>cQ sa x.stack sc hsm.2 ((hs.mono hbA).mono q) (hk.mono q)
 clear hk hX hF h hbA hl hs lim hsm;have hlast':((i:Int) == (nfr:Int)-1)=last:=by rw[hlast,Bool.eq_iff_iff];simp
 have hlast2:decide ((i:Int)=(nfr:Int)-1)=last:=hlast.symm;clear hlast;by_cases h0:Fits fs x.fn x.pc x.locals.length x.stack.length last
 case neg=>
  rw[aw h0] at HC0;have HN:Hid (¬Fits fs x.fn x.pc x.locals.length x.stack.length last):=h0;clear h0;obtain⟨j0,j1,j2,j3,j4,j5,j6,j7,j8,j9⟩:=HS.out wA gM;go_enter Tryz.func192,Tryz.ntmps192
  go_upto_region 2 with fail
  rw[<-hwA];clear hwA j0 j1 j2 j3 j4 j5 j6 j7 j8 j9;refine au (by kernel_rfl) (by kernel_rfl) ?_
  iterate 21
   refine ae (v:=?_) (by kernel_rfl) ?_ ?_;rotate_left
   ·intro w' hC;obtain⟨j0,j1,j2,j3,j4,j5,j6,j7,j8,j9⟩:=HS.out w' hC;go_simp;try with_reducible rfl
   try simp only[Act.put,sAr,sZe,sSu]
  refine ae (v:=.bool false) (by kernel_rfl) ?_ ?_
  ·intro w' hC;go_simp;refine (HC0.out _ hC).mono ?_;rintro e w'' ⟨rfl,hb2⟩;exact⟨rfl,hC.trans (hb2.mono hC.size)⟩
  try simp only[Act.put,sAr,sZe,sSu]
  refine ae (v:=?_) (by kernel_rfl) ?_ ?_;rotate_left
  ·intro w' hC;obtain⟨j0,j1,j2,j3,j4,j5,j6,j7,j8,j9⟩:=HS.out w' hC;go_simp;try with_reducible rfl
  try simp only[Act.put,sAr,sZe,sSu]
  iterate 4 go_big_quiet_skip
  iterate 2
   refine ae (v:=?_) (by kernel_rfl) ?_ ?_;rotate_left
   ·intro w' hC;obtain⟨j0,j1,j2,j3,j4,j5,j6,j7,j8,j9⟩:=HS.out w' hC;go_simp;try with_reducible rfl
   try simp only[Act.put,sAr,sZe,sSu]
  iterate 4 go_big_quiet_skip
  iterate 2
   refine ae (v:=?_) (by kernel_rfl) ?_ ?_;rotate_left
   ·intro w' hC;obtain⟨j0,j1,j2,j3,j4,j5,j6,j7,j8,j9⟩:=HS.out w' hC;go_simp;try with_reducible rfl
   try simp only[Act.put,sAr,sZe,sSu]
  refine wpQuiet_nil ?_;intro w2 q2;go_wp2;go_ret
  exact⟨aj (aw (fun q=>HN.out q.1)).symm,HB.out.trans (q2.mono HB.out.size)⟩
 rw[ay h0] at HC0;have H0:Hid (Fits fs x.fn x.pc x.locals.length x.stack.length last):=h0;clear h0;by_cases h1:dX fs.length D nr x.locals
 case neg=>
  rw[aw h1] at HC1;have HN:Hid (¬dX fs.length D nr x.locals):=h1;clear h1;obtain⟨j0,j1,j2,j3,j4,j5,j6,j7,j8,j9⟩:=HS.out wA gM;go_enter Tryz.func192,Tryz.ntmps192
  go_upto_region 2 with fail
  rw[<-hwA];clear hwA j0 j1 j2 j3 j4 j5 j6 j7 j8 j9;refine au (by kernel_rfl) (by kernel_rfl) ?_
  iterate 21
   refine ae (v:=?_) (by kernel_rfl) ?_ ?_;rotate_left
   ·intro w' hC;obtain⟨j0,j1,j2,j3,j4,j5,j6,j7,j8,j9⟩:=HS.out w' hC;go_simp;try with_reducible rfl
   try simp only[Act.put,sAr,sZe,sSu]
  refine ae (v:=.bool true) (by kernel_rfl) ?_ ?_
  ·intro w' hC;go_simp;refine (HC0.out _ hC).mono ?_;rintro e w'' ⟨rfl,hb2⟩;exact⟨rfl,hC.trans (hb2.mono hC.size)⟩
  try simp only[Act.put,sAr,sZe,sSu]
  iterate 4
   refine ae (v:=?_) (by kernel_rfl) ?_ ?_;rotate_left
   ·intro w' hC;obtain⟨j0,j1,j2,j3,j4,j5,j6,j7,j8,j9⟩:=HS.out w' hC;go_simp;try with_reducible rfl
   try simp only[Act.put,sAr,sZe,sSu]
  refine ae (v:=.bool false) (by kernel_rfl) ?_ ?_
  ·intro w' hC;go_simp;refine (HC1.out _ hC).mono ?_;rintro e w'' ⟨rfl,hb2⟩;exact⟨rfl,hC.trans (hb2.mono hC.size)⟩
  try simp only[Act.put,sAr,sZe,sSu]
  iterate 2
   refine ae (v:=?_) (by kernel_rfl) ?_ ?_;rotate_left
   ·intro w' hC;obtain⟨j0,j1,j2,j3,j4,j5,j6,j7,j8,j9⟩:=HS.out w' hC;go_simp;try with_reducible rfl
   try simp only[Act.put,sAr,sZe,sSu]
  iterate 4 go_big_quiet_skip
  iterate 2
   refine ae (v:=?_) (by kernel_rfl) ?_ ?_;rotate_left
   ·intro w' hC;obtain⟨j0,j1,j2,j3,j4,j5,j6,j7,j8,j9⟩:=HS.out w' hC;go_simp;try with_reducible rfl
   try simp only[Act.put,sAr,sZe,sSu]
  refine wpQuiet_nil ?_;intro w2 q2;go_wp2;go_ret
  exact⟨aj (aw (fun q=>HN.out q.2.1)).symm,HB.out.trans (q2.mono HB.out.size)⟩
 rw[ay h1] at HC1;have H1:Hid (dX fs.length D nr x.locals):=h1;clear h1;obtain⟨j0,j1,j2,j3,j4,j5,j6,j7,j8,j9⟩:=HS.out wA gM;go_enter Tryz.func192,Tryz.ntmps192
 go_upto_region 2 with fail
 rw[<-hwA];clear hwA j0 j1 j2 j3 j4 j5 j6 j7 j8 j9;refine au (by kernel_rfl) (by kernel_rfl) ?_
 iterate 21
  refine ae (v:=?_) (by kernel_rfl) ?_ ?_;rotate_left
  ·intro w' hC;obtain⟨j0,j1,j2,j3,j4,j5,j6,j7,j8,j9⟩:=HS.out w' hC;go_simp;try with_reducible rfl
  try simp only[Act.put,sAr,sZe,sSu]
 refine ae (v:=.bool true) (by kernel_rfl) ?_ ?_
 ·intro w' hC;go_simp;refine (HC0.out _ hC).mono ?_;rintro e w'' ⟨rfl,hb2⟩;exact⟨rfl,hC.trans (hb2.mono hC.size)⟩
 try simp only[Act.put,sAr,sZe,sSu]
 iterate 4
  refine ae (v:=?_) (by kernel_rfl) ?_ ?_;rotate_left
  ·intro w' hC;obtain⟨j0,j1,j2,j3,j4,j5,j6,j7,j8,j9⟩:=HS.out w' hC;go_simp;try with_reducible rfl
  try simp only[Act.put,sAr,sZe,sSu]
 refine ae (v:=.bool true) (by kernel_rfl) ?_ ?_
 ·intro w' hC;go_simp;refine (HC1.out _ hC).mono ?_;rintro e w'' ⟨rfl,hb2⟩;exact⟨rfl,hC.trans (hb2.mono hC.size)⟩
 try simp only[Act.put,sAr,sZe,sSu]
 iterate 5
  refine ae (v:=?_) (by kernel_rfl) ?_ ?_;rotate_left
  ·intro w' hC;obtain⟨j0,j1,j2,j3,j4,j5,j6,j7,j8,j9⟩:=HS.out w' hC;go_simp;try with_reducible rfl
  try simp only[Act.put,sAr,sZe,sSu]
 refine ae (v:=.bool (pB (dX fs.length D nr x.stack))) (by kernel_rfl) ?_ ?_
 ·intro w' hC;go_simp;refine (HC2.out _ hC).mono ?_;rintro e w'' ⟨rfl,hb2⟩;exact⟨rfl,hC.trans (hb2.mono hC.size)⟩
 try simp only[Act.put,sAr,sZe,sSu]
 iterate 2
  refine ae (v:=?_) (by kernel_rfl) ?_ ?_;rotate_left
  ·intro w' hC;obtain⟨j0,j1,j2,j3,j4,j5,j6,j7,j8,j9⟩:=HS.out w' hC;go_simp;try with_reducible rfl
  try simp only[Act.put,sAr,sZe,sSu]
 refine wpQuiet_nil ?_;intro w2 q2;go_wp2;go_ret
 exact⟨bx (by rw[cT];exact⟨fun q=>⟨H0.out,H1.out,q⟩,fun q=>q.2.2⟩),HB.out.trans (q2.mono HB.out.size)⟩
end
section
variable {fs:List Fn} {D:aH} {a1 a2 oa ea fa ra:Option Addr} {nt c1 c2 oc ec G base K fc rc:Nat} {w:World}
theorem exitOk_any(i0:Int)(x:Ex)(hsm:ck x)(hfr:bZ w 0 fa x.frames)(hrc:b8 w 0 ra x.recs)(h:Look fs D a1 a2 oa ea nt c1 c2 oc ec G base K w)(lim:Lim fs D) :
  Calls Tryz.prog 165 #[.pointer (some ⟨K,0,none⟩),.int .i64 i0,.agg #[.int .i64 x.kind,.int .i64 x.spec.f,.int .i64 x.spec.pc,.int .i64 x.spec.seen,.int .i64 x.spec.target,.slice fa x.frames.length fc,.slice ra x.recs.length rc]] w fun e w'=>e=.returned (.bool (pB (eR fs D x)))/\Below w.heap.size w w':=by
 obtain⟨wA,hwA⟩:∃wA,wA=(w.alloc (.cells #[.int .i64 x.kind,.int .i64 x.spec.f,.int .i64 x.spec.pc,.int .i64 x.spec.seen,.int .i64 x.spec.target,.slice fa x.frames.length fc,.slice ra x.recs.length rc] 175)).alloc (.cells #[.pointer (some ⟨K,0,none⟩),.slice fa x.frames.length fc,.slice ra x.recs.length rc] 308):=⟨_,rfl⟩;have hbA:Below w.heap.size w wA:=by rw[hwA];exact (gM.alloc nL _).alloc (by simp) _
 have hX:wA.heap[w.heap.size]?=some (.cells #[.int .i64 x.kind,.int .i64 x.spec.f,.int .i64 x.spec.pc,.int .i64 x.spec.seen,.int .i64 x.spec.target,.slice fa x.frames.length fc,.slice ra x.recs.length rc] 175 (0,0)):=by rw[hwA];exact al (ah _ _ _) _
 have hL:wA.heap[w.heap.size+1]?=some (.cells #[.pointer (some ⟨K,0,none⟩),.slice fa x.frames.length fc,.slice ra x.recs.length rc] 308 (0,0)):=by rw[hwA];exact ax _ _ _ _ (by simp)
 have hk:=h.mono hbA;have hfrA:=hfr.mono hbA;have hrcA:=hrc.mono hbA;have hn4:=hsm.1.1;have hn6:=hsm.2.1;have HB:Hid (Below w.heap.size w wA):=hbA;have HS:Hid (∀w',Below wA.heap.size wA w'->w'.cell? ⟨w.heap.size,0,none⟩=some (.int .i64 x.kind)/\w'.cell? ⟨w.heap.size,1,none⟩=some (.int .i64 x.spec.f)/\w'.cell? ⟨w.heap.size,2,none⟩=some (.int .i64 x.spec.pc)/\w'.cell? ⟨w.heap.size,3,none⟩=some (.int .i64 x.spec.seen)/\w'.cell? ⟨w.heap.size,4,none⟩=some (.int .i64 x.spec.target)/\w'.cell? ⟨w.heap.size,5,none⟩=some (.slice fa x.frames.length fc)/\w'.cell? ⟨w.heap.size,6,none⟩=some (.slice ra x.recs.length rc)/\w'.cell? ⟨w.heap.size+1,0,none⟩=some (.pointer (some ⟨K,0,none⟩))/\w'.cell? ⟨w.heap.size+1,1,none⟩=some (.slice fa x.frames.length fc)/\w'.cell? ⟨w.heap.size+1,2,none⟩=some (.slice ra x.recs.length rc)/\w'.cell? ⟨K,3,none⟩=some (.int .i64 D.fn)):=fun w' q=>⟨aa (ab hX q) 0,aa (ab hX q) 1,aa (ab hX q) 2,aa (ab hX q) 3,aa (ab hX q) 4,aa (ab hX q) 5,aa (ab hX q) 6,aa (ab hL q) 0,aa (ab hL q) 1,aa (ab hL q) 2,(hk.mono q).cells 3⟩
 have HC0:Hid (∀w',Below wA.heap.size wA w'->Calls Tryz.prog 30 #[.int .i64 x.kind,.int .i64 1,.int .i64 4] w' fun e w''=>e=.returned (.bool (pB (Btw x.kind 1 4)))/\Below w'.heap.size w' w''):=fun w' _=>(bd _ _ _ _).mono fun _ _ q=>⟨q.1,by rw[q.2];exact Below.refl _ _⟩
 have HC1:Hid (∀w',Below wA.heap.size wA w'->Calls Tryz.prog 190 #[.pointer (some ⟨K,0,none⟩),.agg #[.int .i64 x.kind,.int .i64 x.spec.f,.int .i64 x.spec.pc,.int .i64 x.spec.seen,.int .i64 x.spec.target,.slice fa x.frames.length fc,.slice ra x.recs.length rc]] w' fun e w''=>e=.returned (.bool (pB (cj fs x)))/\Below w'.heap.size w' w''):=fun w' q=>guessOk_any x (hk.mono q) lim
 have HC2:Hid (∀w',Below wA.heap.size wA w'->Calls Tryz.prog 30 #[.int .i64 x.frames.length,.int .i64 1,.int .i64 4] w' fun e w''=>e=.returned (.bool (pB (Btw (x.frames.length:Int) 1 4)))/\Below w'.heap.size w' w''):=fun w' _=>(bd _ _ _ _).mono fun _ _ q=>⟨q.1,by rw[q.2];exact Below.refl _ _⟩
 have HC4:Hid (∀w',Below wA.heap.size wA w'->Calls Tryz.prog 191 #[.slice fa x.frames.length fc,.func (.func 192) #[.agg #[.pointer (some ⟨K,0,none⟩),.slice fa x.frames.length fc,.slice ra x.recs.length rc]] #[]] w' fun e w''=>e=.returned (.bool (pB (∀i (h:i<x.frames.length),cJ fs D x.recs.length x.frames[i] (decide ((i:Int)=(x.frames.length:Int)-1)))))/\Below w'.heap.size w' w''):=fun w' q=>allExFrame_any (.agg #[.pointer (some ⟨K,0,none⟩),.slice fa x.frames.length fc,.slice ra x.recs.length rc]) (fun i f=>cJ fs D x.recs.length f (decide ((i:Int)=(x.frames.length:Int)-1))) fa x.frames fc w' hn4 (hfrA.mono q) (fun i hi _ _ _ _ w'' q' p0 p1=>frameOk_i i _ _ _ _ _ (hsm.1.2 _ (n_l hi)) p0 p1 hi hn4 ((hk.mono q).mono q') lim)
 have HC6:Hid (∀w',Below wA.heap.size wA w'->Calls Tryz.prog 193 #[.slice ra x.recs.length rc,.func (.func 194) #[.agg #[.pointer (some ⟨K,0,none⟩),.slice fa x.frames.length fc,.slice ra x.recs.length rc]] #[]] w' fun e w''=>e=.returned (.bool (pB (∀i (h:i<x.recs.length),fw fs.length D x.recs.length x.recs[i])))/\Below w'.heap.size w' w''):=fun w' q=>allExRec_any (.agg #[.pointer (some ⟨K,0,none⟩),.slice fa x.frames.length fc,.slice ra x.recs.length rc]) (fun _ r=>fw fs.length D x.recs.length r) ra x.recs rc w' hn6 (hrcA.mono q) (fun i hi _ _ w'' q' p0=>recOk_any _ _ _ _ (hsm.2.2 _ (n_l hi)) p0 ((hk.mono q).mono q'))
 clear hk hX hL h hbA hrc hrcA hfr lim hsm hn4;by_cases h0:Btw x.kind 1 4
 case neg=>
  rw[aw h0] at HC0;have HN:Hid (¬(Btw x.kind 1 4)):=h0;clear h0;obtain⟨j0,j1,j2,j3,j4,j5,j6,j7,j8,j9,j10⟩:=HS.out wA gM;go_enter Tryz.func165,Tryz.ntmps165
  go_upto_region 2 with fail
  rw[<-hwA];clear hwA j0 j1 j2 j3 j4 j5 j6 j7 j8 j9 j10;refine au (by kernel_rfl) (by kernel_rfl) ?_
  iterate 2
   refine ae (v:=?_) (by kernel_rfl) ?_ ?_;rotate_left
   ·intro w' hC;obtain⟨j0,j1,j2,j3,j4,j5,j6,j7,j8,j9,j10⟩:=HS.out w' hC;go_simp;try with_reducible rfl
   try simp only[Act.put,sAr,sZe,sSu]
  refine ae (v:=.bool false) (by kernel_rfl) ?_ ?_
  ·intro w' hC;go_simp;refine (HC0.out _ hC).mono ?_;rintro e w'' ⟨rfl,hb2⟩;exact⟨rfl,hC.trans (hb2.mono hC.size)⟩
  try simp only[Act.put,sAr,sZe,sSu]
  refine ae (v:=?_) (by kernel_rfl) ?_ ?_;rotate_left
  ·intro w' hC;obtain⟨j0,j1,j2,j3,j4,j5,j6,j7,j8,j9,j10⟩:=HS.out w' hC;go_simp;try with_reducible rfl
  try simp only[Act.put,sAr,sZe,sSu]
  iterate 3 go_big_quiet_skip
  iterate 2
   refine ae (v:=?_) (by kernel_rfl) ?_ ?_;rotate_left
   ·intro w' hC;obtain⟨j0,j1,j2,j3,j4,j5,j6,j7,j8,j9,j10⟩:=HS.out w' hC;go_simp;try with_reducible rfl
   try simp only[Act.put,sAr,sZe,sSu]
  iterate 4 go_big_quiet_skip
  iterate 2
   refine ae (v:=?_) (by kernel_rfl) ?_ ?_;rotate_left
   ·intro w' hC;obtain⟨j0,j1,j2,j3,j4,j5,j6,j7,j8,j9,j10⟩:=HS.out w' hC;go_simp;try with_reducible rfl
   try simp only[Act.put,sAr,sZe,sSu]
  iterate 11 go_big_quiet_skip
  iterate 2
   refine ae (v:=?_) (by kernel_rfl) ?_ ?_;rotate_left
   ·intro w' hC;obtain⟨j0,j1,j2,j3,j4,j5,j6,j7,j8,j9,j10⟩:=HS.out w' hC;go_simp;try with_reducible rfl
   try simp only[Act.put,sAr,sZe,sSu]
  iterate 5 go_big_quiet_skip
  iterate 2
   refine ae (v:=?_) (by kernel_rfl) ?_ ?_;rotate_left
   ·intro w' hC;obtain⟨j0,j1,j2,j3,j4,j5,j6,j7,j8,j9,j10⟩:=HS.out w' hC;go_simp;try with_reducible rfl
   try simp only[Act.put,sAr,sZe,sSu]
  iterate 4 go_big_quiet_skip
  iterate 2
   refine ae (v:=?_) (by kernel_rfl) ?_ ?_;rotate_left
   ·intro w' hC;obtain⟨j0,j1,j2,j3,j4,j5,j6,j7,j8,j9,j10⟩:=HS.out w' hC;go_simp;try with_reducible rfl
   try simp only[Act.put,sAr,sZe,sSu]
  iterate 5 go_big_quiet_skip
  iterate 2
   refine ae (v:=?_) (by kernel_rfl) ?_ ?_;rotate_left
   ·intro w' hC;obtain⟨j0,j1,j2,j3,j4,j5,j6,j7,j8,j9,j10⟩:=HS.out w' hC;go_simp;try with_reducible rfl
   try simp only[Act.put,sAr,sZe,sSu]
  refine wpQuiet_nil ?_;intro w2 q2;go_wp2;go_ret
  exact⟨aj (aw (fun q=>HN.out q.1)).symm,HB.out.trans (q2.mono HB.out.size)⟩
 rw[ay h0] at HC0;have H0:Hid (Btw x.kind 1 4):=h0;clear h0;by_cases h1:cj fs x
 case neg=>
  rw[aw h1] at HC1;have HN:Hid (¬(cj fs x)):=h1;clear h1;obtain⟨j0,j1,j2,j3,j4,j5,j6,j7,j8,j9,j10⟩:=HS.out wA gM;go_enter Tryz.func165,Tryz.ntmps165
  go_upto_region 2 with fail
  rw[<-hwA];clear hwA j0 j1 j2 j3 j4 j5 j6 j7 j8 j9 j10;refine au (by kernel_rfl) (by kernel_rfl) ?_
  iterate 2
   refine ae (v:=?_) (by kernel_rfl) ?_ ?_;rotate_left
   ·intro w' hC;obtain⟨j0,j1,j2,j3,j4,j5,j6,j7,j8,j9,j10⟩:=HS.out w' hC;go_simp;try with_reducible rfl
   try simp only[Act.put,sAr,sZe,sSu]
  refine ae (v:=.bool true) (by kernel_rfl) ?_ ?_
  ·intro w' hC;go_simp;refine (HC0.out _ hC).mono ?_;rintro e w'' ⟨rfl,hb2⟩;exact⟨rfl,hC.trans (hb2.mono hC.size)⟩
  try simp only[Act.put,sAr,sZe,sSu]
  iterate 3
   refine ae (v:=?_) (by kernel_rfl) ?_ ?_;rotate_left
   ·intro w' hC;obtain⟨j0,j1,j2,j3,j4,j5,j6,j7,j8,j9,j10⟩:=HS.out w' hC;go_simp;try with_reducible rfl
   try simp only[Act.put,sAr,sZe,sSu]
  refine ae (v:=.bool false) (by kernel_rfl) ?_ ?_
  ·intro w' hC;go_simp;refine (HC1.out _ hC).mono ?_;rintro e w'' ⟨rfl,hb2⟩;exact⟨rfl,hC.trans (hb2.mono hC.size)⟩
  try simp only[Act.put,sAr,sZe,sSu]
  iterate 2
   refine ae (v:=?_) (by kernel_rfl) ?_ ?_;rotate_left
   ·intro w' hC;obtain⟨j0,j1,j2,j3,j4,j5,j6,j7,j8,j9,j10⟩:=HS.out w' hC;go_simp;try with_reducible rfl
   try simp only[Act.put,sAr,sZe,sSu]
  iterate 4 go_big_quiet_skip
  iterate 2
   refine ae (v:=?_) (by kernel_rfl) ?_ ?_;rotate_left
   ·intro w' hC;obtain⟨j0,j1,j2,j3,j4,j5,j6,j7,j8,j9,j10⟩:=HS.out w' hC;go_simp;try with_reducible rfl
   try simp only[Act.put,sAr,sZe,sSu]
  iterate 11 go_big_quiet_skip
  iterate 2
   refine ae (v:=?_) (by kernel_rfl) ?_ ?_;rotate_left
   ·intro w' hC;obtain⟨j0,j1,j2,j3,j4,j5,j6,j7,j8,j9,j10⟩:=HS.out w' hC;go_simp;try with_reducible rfl
   try simp only[Act.put,sAr,sZe,sSu]
  iterate 5 go_big_quiet_skip
  iterate 2
   refine ae (v:=?_) (by kernel_rfl) ?_ ?_;rotate_left
   ·intro w' hC;obtain⟨j0,j1,j2,j3,j4,j5,j6,j7,j8,j9,j10⟩:=HS.out w' hC;go_simp;try with_reducible rfl
   try simp only[Act.put,sAr,sZe,sSu]
  iterate 4 go_big_quiet_skip
  iterate 2
   refine ae (v:=?_) (by kernel_rfl) ?_ ?_;rotate_left
   ·intro w' hC;obtain⟨j0,j1,j2,j3,j4,j5,j6,j7,j8,j9,j10⟩:=HS.out w' hC;go_simp;try with_reducible rfl
   try simp only[Act.put,sAr,sZe,sSu]
  iterate 5 go_big_quiet_skip
  iterate 2
   refine ae (v:=?_) (by kernel_rfl) ?_ ?_;rotate_left
   ·intro w' hC;obtain⟨j0,j1,j2,j3,j4,j5,j6,j7,j8,j9,j10⟩:=HS.out w' hC;go_simp;try with_reducible rfl
   try simp only[Act.put,sAr,sZe,sSu]
  refine wpQuiet_nil ?_;intro w2 q2;go_wp2;go_ret
  exact⟨aj (aw (fun q=>HN.out q.2.1)).symm,HB.out.trans (q2.mono HB.out.size)⟩
 rw[ay h1] at HC1;have H1:Hid (cj fs x):=h1;clear h1;by_cases h2:Btw (x.frames.length:Int) 1 4
 case neg=>
  rw[aw h2] at HC2;have HN:Hid (¬(Btw (x.frames.length:Int) 1 4)):=h2;clear h2;obtain⟨j0,j1,j2,j3,j4,j5,j6,j7,j8,j9,j10⟩:=HS.out wA gM;go_enter Tryz.func165,Tryz.ntmps165
  go_upto_region 2 with fail
  rw[<-hwA];clear hwA j0 j1 j2 j3 j4 j5 j6 j7 j8 j9 j10;refine au (by kernel_rfl) (by kernel_rfl) ?_
  iterate 2
   refine ae (v:=?_) (by kernel_rfl) ?_ ?_;rotate_left
   ·intro w' hC;obtain⟨j0,j1,j2,j3,j4,j5,j6,j7,j8,j9,j10⟩:=HS.out w' hC;go_simp;try with_reducible rfl
   try simp only[Act.put,sAr,sZe,sSu]
  refine ae (v:=.bool true) (by kernel_rfl) ?_ ?_
  ·intro w' hC;go_simp;refine (HC0.out _ hC).mono ?_;rintro e w'' ⟨rfl,hb2⟩;exact⟨rfl,hC.trans (hb2.mono hC.size)⟩
  try simp only[Act.put,sAr,sZe,sSu]
  iterate 3
   refine ae (v:=?_) (by kernel_rfl) ?_ ?_;rotate_left
   ·intro w' hC;obtain⟨j0,j1,j2,j3,j4,j5,j6,j7,j8,j9,j10⟩:=HS.out w' hC;go_simp;try with_reducible rfl
   try simp only[Act.put,sAr,sZe,sSu]
  refine ae (v:=.bool true) (by kernel_rfl) ?_ ?_
  ·intro w' hC;go_simp;refine (HC1.out _ hC).mono ?_;rintro e w'' ⟨rfl,hb2⟩;exact⟨rfl,hC.trans (hb2.mono hC.size)⟩
  try simp only[Act.put,sAr,sZe,sSu]
  iterate 5
   refine ae (v:=?_) (by kernel_rfl) ?_ ?_;rotate_left
   ·intro w' hC;obtain⟨j0,j1,j2,j3,j4,j5,j6,j7,j8,j9,j10⟩:=HS.out w' hC;go_simp;try with_reducible rfl
   try simp only[Act.put,sAr,sZe,sSu]
  refine ae (v:=.bool false) (by kernel_rfl) ?_ ?_
  ·intro w' hC;go_simp;refine (HC2.out _ hC).mono ?_;rintro e w'' ⟨rfl,hb2⟩;exact⟨rfl,hC.trans (hb2.mono hC.size)⟩
  try simp only[Act.put,sAr,sZe,sSu]
  iterate 2
   refine ae (v:=?_) (by kernel_rfl) ?_ ?_;rotate_left
   ·intro w' hC;obtain⟨j0,j1,j2,j3,j4,j5,j6,j7,j8,j9,j10⟩:=HS.out w' hC;go_simp;try with_reducible rfl
   try simp only[Act.put,sAr,sZe,sSu]
  iterate 11 go_big_quiet_skip
  iterate 2
   refine ae (v:=?_) (by kernel_rfl) ?_ ?_;rotate_left
   ·intro w' hC;obtain⟨j0,j1,j2,j3,j4,j5,j6,j7,j8,j9,j10⟩:=HS.out w' hC;go_simp;try with_reducible rfl
   try simp only[Act.put,sAr,sZe,sSu]
  iterate 5 go_big_quiet_skip
  iterate 2
   refine ae (v:=?_) (by kernel_rfl) ?_ ?_;rotate_left
   ·intro w' hC;obtain⟨j0,j1,j2,j3,j4,j5,j6,j7,j8,j9,j10⟩:=HS.out w' hC;go_simp;try with_reducible rfl
   try simp only[Act.put,sAr,sZe,sSu]
  iterate 4 go_big_quiet_skip
  iterate 2
   refine ae (v:=?_) (by kernel_rfl) ?_ ?_;rotate_left
   ·intro w' hC;obtain⟨j0,j1,j2,j3,j4,j5,j6,j7,j8,j9,j10⟩:=HS.out w' hC;go_simp;try with_reducible rfl
   try simp only[Act.put,sAr,sZe,sSu]
  iterate 5 go_big_quiet_skip
  iterate 2
   refine ae (v:=?_) (by kernel_rfl) ?_ ?_;rotate_left
   ·intro w' hC;obtain⟨j0,j1,j2,j3,j4,j5,j6,j7,j8,j9,j10⟩:=HS.out w' hC;go_simp;try with_reducible rfl
   try simp only[Act.put,sAr,sZe,sSu]
  refine wpQuiet_nil ?_;intro w2 q2;go_wp2;go_ret
  exact⟨aj (aw (fun q=>HN.out (by have:=q.2.2.1;exact⟨by omega,by omega⟩))).symm,HB.out.trans (q2.mono HB.out.size)⟩
 rw[ay h2] at HC2;have H2:Hid (Btw (x.frames.length:Int) 1 4):=h2;clear h2;have hz:0<x.frames.length:=by have:=H2.out.1;omega
 obtain⟨b,off,la,lc,sa,sc,rfl,-,df,-⟩:=hfrA 0 hz;have HS':=HS;clear HS;have HS:Hid (∀w',Below wA.heap.size wA w'->w'.cell? ⟨w.heap.size,0,none⟩=some (.int .i64 x.kind)/\w'.cell? ⟨w.heap.size,1,none⟩=some (.int .i64 x.spec.f)/\w'.cell? ⟨w.heap.size,2,none⟩=some (.int .i64 x.spec.pc)/\w'.cell? ⟨w.heap.size,3,none⟩=some (.int .i64 x.spec.seen)/\w'.cell? ⟨w.heap.size,4,none⟩=some (.int .i64 x.spec.target)/\w'.cell? ⟨w.heap.size,5,none⟩=some (.slice (some ⟨b,off,none⟩) x.frames.length fc)/\w'.cell? ⟨w.heap.size,6,none⟩=some (.slice ra x.recs.length rc)/\w'.cell? ⟨w.heap.size+1,0,none⟩=some (.pointer (some ⟨K,0,none⟩))/\w'.cell? ⟨w.heap.size+1,1,none⟩=some (.slice (some ⟨b,off,none⟩) x.frames.length fc)/\w'.cell? ⟨w.heap.size+1,2,none⟩=some (.slice ra x.recs.length rc)/\w'.cell? ⟨K,3,none⟩=some (.int .i64 D.fn)/\w'.cell? ⟨b,off,none⟩=some (.int .i64 x.frames[0].fn)):=fun w' q=>by
  obtain⟨j0,j1,j2,j3,j4,j5,j6,j7,j8,j9,j10⟩:=HS'.out w' q;exact⟨j0,j1,j2,j3,j4,j5,j6,j7,j8,j9,j10,by simpa using cell_later q df⟩
 clear HS' df hfrA;have z1:(0:Int)<(x.frames.length:Int):=by omega
 by_cases h3:x.frames[0].fn=D.fn
 case neg=>
  have g3:(x.frames[0].fn == D.fn)=false:=by simpa using h3
  have HN:Hid (¬x.frames[0].fn=D.fn):=h3;clear h3;obtain⟨j0,j1,j2,j3,j4,j5,j6,j7,j8,j9,j10,jf⟩:=HS.out wA gM;go_enter Tryz.func165,Tryz.ntmps165
  go_upto_region 2 with fail
  rw[<-hwA];clear hwA j0 j1 j2 j3 j4 j5 j6 j7 j8 j9 j10 jf;refine au (by kernel_rfl) (by kernel_rfl) ?_
  iterate 2
   refine ae (v:=?_) (by kernel_rfl) ?_ ?_;rotate_left
   ·intro w' hC;obtain⟨j0,j1,j2,j3,j4,j5,j6,j7,j8,j9,j10,jf⟩:=HS.out w' hC;go_simp;try with_reducible rfl
   try simp only[Act.put,sAr,sZe,sSu]
  refine ae (v:=.bool true) (by kernel_rfl) ?_ ?_
  ·intro w' hC;go_simp;refine (HC0.out _ hC).mono ?_;rintro e w'' ⟨rfl,hb2⟩;exact⟨rfl,hC.trans (hb2.mono hC.size)⟩
  try simp only[Act.put,sAr,sZe,sSu]
  iterate 3
   refine ae (v:=?_) (by kernel_rfl) ?_ ?_;rotate_left
   ·intro w' hC;obtain⟨j0,j1,j2,j3,j4,j5,j6,j7,j8,j9,j10,jf⟩:=HS.out w' hC;go_simp;try with_reducible rfl
   try simp only[Act.put,sAr,sZe,sSu]
  refine ae (v:=.bool true) (by kernel_rfl) ?_ ?_
  ·intro w' hC;go_simp;refine (HC1.out _ hC).mono ?_;rintro e w'' ⟨rfl,hb2⟩;exact⟨rfl,hC.trans (hb2.mono hC.size)⟩
  try simp only[Act.put,sAr,sZe,sSu]
  iterate 5
   refine ae (v:=?_) (by kernel_rfl) ?_ ?_;rotate_left
   ·intro w' hC;obtain⟨j0,j1,j2,j3,j4,j5,j6,j7,j8,j9,j10,jf⟩:=HS.out w' hC;go_simp;try with_reducible rfl
   try simp only[Act.put,sAr,sZe,sSu]
  refine ae (v:=.bool true) (by kernel_rfl) ?_ ?_
  ·intro w' hC;go_simp;refine (HC2.out _ hC).mono ?_;rintro e w'' ⟨rfl,hb2⟩;exact⟨rfl,hC.trans (hb2.mono hC.size)⟩
  try simp only[Act.put,sAr,sZe,sSu]
  iterate 15
   refine ae (v:=?_) (by kernel_rfl) ?_ ?_;rotate_left
   ·intro w' hC;obtain⟨j0,j1,j2,j3,j4,j5,j6,j7,j8,j9,j10,jf⟩:=HS.out w' hC;go_simp;try with_reducible rfl
   try simp only[Act.put,sAr,sZe,sSu]
  iterate 5 go_big_quiet_skip
  iterate 2
   refine ae (v:=?_) (by kernel_rfl) ?_ ?_;rotate_left
   ·intro w' hC;obtain⟨j0,j1,j2,j3,j4,j5,j6,j7,j8,j9,j10,jf⟩:=HS.out w' hC;go_simp;try with_reducible rfl
   try simp only[Act.put,sAr,sZe,sSu]
  iterate 4 go_big_quiet_skip
  iterate 2
   refine ae (v:=?_) (by kernel_rfl) ?_ ?_;rotate_left
   ·intro w' hC;obtain⟨j0,j1,j2,j3,j4,j5,j6,j7,j8,j9,j10,jf⟩:=HS.out w' hC;go_simp;try with_reducible rfl
   try simp only[Act.put,sAr,sZe,sSu]
  iterate 5 go_big_quiet_skip
  iterate 2
   refine ae (v:=?_) (by kernel_rfl) ?_ ?_;rotate_left
   ·intro w' hC;obtain⟨j0,j1,j2,j3,j4,j5,j6,j7,j8,j9,j10,jf⟩:=HS.out w' hC;go_simp;try with_reducible rfl
   try simp only[Act.put,sAr,sZe,sSu]
  refine wpQuiet_nil ?_;intro w2 q2;go_wp2;go_ret
  exact⟨aj (aw (fun q=>by obtain⟨_,q⟩:=q.2.2.2.1;exact HN.out q)).symm,HB.out.trans (q2.mono HB.out.size)⟩
 have g3:(x.frames[0].fn == D.fn)=true:=by simpa using h3
 have H3:Hid (x.frames[0].fn=D.fn):=h3;clear h3;by_cases h4:∀i (h:i<x.frames.length),cJ fs D x.recs.length x.frames[i] (decide ((i:Int)=(x.frames.length:Int)-1))
 case neg=>
  rw[aw h4] at HC4;have HN:Hid (¬(∀i (h:i<x.frames.length),cJ fs D x.recs.length x.frames[i] (decide ((i:Int)=(x.frames.length:Int)-1)))):=h4;clear h4;obtain⟨j0,j1,j2,j3,j4,j5,j6,j7,j8,j9,j10,jf⟩:=HS.out wA gM;go_enter Tryz.func165,Tryz.ntmps165
  go_upto_region 2 with fail
  rw[<-hwA];clear hwA j0 j1 j2 j3 j4 j5 j6 j7 j8 j9 j10 jf;refine au (by kernel_rfl) (by kernel_rfl) ?_
  iterate 2
   refine ae (v:=?_) (by kernel_rfl) ?_ ?_;rotate_left
   ·intro w' hC;obtain⟨j0,j1,j2,j3,j4,j5,j6,j7,j8,j9,j10,jf⟩:=HS.out w' hC;go_simp;try with_reducible rfl
   try simp only[Act.put,sAr,sZe,sSu]
  refine ae (v:=.bool true) (by kernel_rfl) ?_ ?_
  ·intro w' hC;go_simp;refine (HC0.out _ hC).mono ?_;rintro e w'' ⟨rfl,hb2⟩;exact⟨rfl,hC.trans (hb2.mono hC.size)⟩
  try simp only[Act.put,sAr,sZe,sSu]
  iterate 3
   refine ae (v:=?_) (by kernel_rfl) ?_ ?_;rotate_left
   ·intro w' hC;obtain⟨j0,j1,j2,j3,j4,j5,j6,j7,j8,j9,j10,jf⟩:=HS.out w' hC;go_simp;try with_reducible rfl
   try simp only[Act.put,sAr,sZe,sSu]
  refine ae (v:=.bool true) (by kernel_rfl) ?_ ?_
  ·intro w' hC;go_simp;refine (HC1.out _ hC).mono ?_;rintro e w'' ⟨rfl,hb2⟩;exact⟨rfl,hC.trans (hb2.mono hC.size)⟩
  try simp only[Act.put,sAr,sZe,sSu]
  iterate 5
   refine ae (v:=?_) (by kernel_rfl) ?_ ?_;rotate_left
   ·intro w' hC;obtain⟨j0,j1,j2,j3,j4,j5,j6,j7,j8,j9,j10,jf⟩:=HS.out w' hC;go_simp;try with_reducible rfl
   try simp only[Act.put,sAr,sZe,sSu]
  refine ae (v:=.bool true) (by kernel_rfl) ?_ ?_
  ·intro w' hC;go_simp;refine (HC2.out _ hC).mono ?_;rintro e w'' ⟨rfl,hb2⟩;exact⟨rfl,hC.trans (hb2.mono hC.size)⟩
  try simp only[Act.put,sAr,sZe,sSu]
  iterate 19
   refine ae (v:=?_) (by kernel_rfl) ?_ ?_;rotate_left
   ·intro w' hC;obtain⟨j0,j1,j2,j3,j4,j5,j6,j7,j8,j9,j10,jf⟩:=HS.out w' hC;go_simp;try with_reducible rfl
   try simp only[Act.put,sAr,sZe,sSu]
  refine ae (v:=.bool false) (by kernel_rfl) ?_ ?_
  ·intro w' hC;go_simp;refine (HC4.out _ hC).mono ?_;rintro e w'' ⟨rfl,hb2⟩;exact⟨rfl,hC.trans (hb2.mono hC.size)⟩
  try simp only[Act.put,sAr,sZe,sSu]
  iterate 2
   refine ae (v:=?_) (by kernel_rfl) ?_ ?_;rotate_left
   ·intro w' hC;obtain⟨j0,j1,j2,j3,j4,j5,j6,j7,j8,j9,j10,jf⟩:=HS.out w' hC;go_simp;try with_reducible rfl
   try simp only[Act.put,sAr,sZe,sSu]
  iterate 4 go_big_quiet_skip
  iterate 2
   refine ae (v:=?_) (by kernel_rfl) ?_ ?_;rotate_left
   ·intro w' hC;obtain⟨j0,j1,j2,j3,j4,j5,j6,j7,j8,j9,j10,jf⟩:=HS.out w' hC;go_simp;try with_reducible rfl
   try simp only[Act.put,sAr,sZe,sSu]
  iterate 5 go_big_quiet_skip
  iterate 2
   refine ae (v:=?_) (by kernel_rfl) ?_ ?_;rotate_left
   ·intro w' hC;obtain⟨j0,j1,j2,j3,j4,j5,j6,j7,j8,j9,j10,jf⟩:=HS.out w' hC;go_simp;try with_reducible rfl
   try simp only[Act.put,sAr,sZe,sSu]
  refine wpQuiet_nil ?_;intro w2 q2;go_wp2;go_ret
  exact⟨aj (aw (fun q=>HN.out q.2.2.2.2.1)).symm,HB.out.trans (q2.mono HB.out.size)⟩
 rw[ay h4] at HC4;have H4:Hid (∀i (h:i<x.frames.length),cJ fs D x.recs.length x.frames[i] (decide ((i:Int)=(x.frames.length:Int)-1))):=h4;clear h4;by_cases h5:x.recs.length<=60
 case neg=>
  have g5:¬(x.recs.length:Int)<=60:=by omega
  have HN:Hid (¬x.recs.length<=60):=h5;clear h5;obtain⟨j0,j1,j2,j3,j4,j5,j6,j7,j8,j9,j10,jf⟩:=HS.out wA gM;go_enter Tryz.func165,Tryz.ntmps165
  go_upto_region 2 with fail
  rw[<-hwA];clear hwA j0 j1 j2 j3 j4 j5 j6 j7 j8 j9 j10 jf;refine au (by kernel_rfl) (by kernel_rfl) ?_
  iterate 2
   refine ae (v:=?_) (by kernel_rfl) ?_ ?_;rotate_left
   ·intro w' hC;obtain⟨j0,j1,j2,j3,j4,j5,j6,j7,j8,j9,j10,jf⟩:=HS.out w' hC;go_simp;try with_reducible rfl
   try simp only[Act.put,sAr,sZe,sSu]
  refine ae (v:=.bool true) (by kernel_rfl) ?_ ?_
  ·intro w' hC;go_simp;refine (HC0.out _ hC).mono ?_;rintro e w'' ⟨rfl,hb2⟩;exact⟨rfl,hC.trans (hb2.mono hC.size)⟩
  try simp only[Act.put,sAr,sZe,sSu]
  iterate 3
   refine ae (v:=?_) (by kernel_rfl) ?_ ?_;rotate_left
   ·intro w' hC;obtain⟨j0,j1,j2,j3,j4,j5,j6,j7,j8,j9,j10,jf⟩:=HS.out w' hC;go_simp;try with_reducible rfl
   try simp only[Act.put,sAr,sZe,sSu]
  refine ae (v:=.bool true) (by kernel_rfl) ?_ ?_
  ·intro w' hC;go_simp;refine (HC1.out _ hC).mono ?_;rintro e w'' ⟨rfl,hb2⟩;exact⟨rfl,hC.trans (hb2.mono hC.size)⟩
  try simp only[Act.put,sAr,sZe,sSu]
  iterate 5
   refine ae (v:=?_) (by kernel_rfl) ?_ ?_;rotate_left
   ·intro w' hC;obtain⟨j0,j1,j2,j3,j4,j5,j6,j7,j8,j9,j10,jf⟩:=HS.out w' hC;go_simp;try with_reducible rfl
   try simp only[Act.put,sAr,sZe,sSu]
  refine ae (v:=.bool true) (by kernel_rfl) ?_ ?_
  ·intro w' hC;go_simp;refine (HC2.out _ hC).mono ?_;rintro e w'' ⟨rfl,hb2⟩;exact⟨rfl,hC.trans (hb2.mono hC.size)⟩
  try simp only[Act.put,sAr,sZe,sSu]
  iterate 19
   refine ae (v:=?_) (by kernel_rfl) ?_ ?_;rotate_left
   ·intro w' hC;obtain⟨j0,j1,j2,j3,j4,j5,j6,j7,j8,j9,j10,jf⟩:=HS.out w' hC;go_simp;try with_reducible rfl
   try simp only[Act.put,sAr,sZe,sSu]
  refine ae (v:=.bool true) (by kernel_rfl) ?_ ?_
  ·intro w' hC;go_simp;refine (HC4.out _ hC).mono ?_;rintro e w'' ⟨rfl,hb2⟩;exact⟨rfl,hC.trans (hb2.mono hC.size)⟩
  try simp only[Act.put,sAr,sZe,sSu]
  iterate 8
   refine ae (v:=?_) (by kernel_rfl) ?_ ?_;rotate_left
   ·intro w' hC;obtain⟨j0,j1,j2,j3,j4,j5,j6,j7,j8,j9,j10,jf⟩:=HS.out w' hC;go_simp;try with_reducible rfl
   try simp only[Act.put,sAr,sZe,sSu]
  iterate 5 go_big_quiet_skip
  iterate 2
   refine ae (v:=?_) (by kernel_rfl) ?_ ?_;rotate_left
   ·intro w' hC;obtain⟨j0,j1,j2,j3,j4,j5,j6,j7,j8,j9,j10,jf⟩:=HS.out w' hC;go_simp;try with_reducible rfl
   try simp only[Act.put,sAr,sZe,sSu]
  refine wpQuiet_nil ?_;intro w2 q2;go_wp2;go_ret
  exact⟨aj (aw (fun q=>HN.out q.2.2.2.2.2.1)).symm,HB.out.trans (q2.mono HB.out.size)⟩
 have g5:(x.recs.length:Int)<=60:=by omega
 have H5:Hid (x.recs.length<=60):=h5;clear h5;obtain⟨j0,j1,j2,j3,j4,j5,j6,j7,j8,j9,j10,jf⟩:=HS.out wA gM;go_enter Tryz.func165,Tryz.ntmps165
 go_upto_region 2 with fail
 rw[<-hwA];clear hwA j0 j1 j2 j3 j4 j5 j6 j7 j8 j9 j10 jf;refine au (by kernel_rfl) (by kernel_rfl) ?_
 iterate 2
  refine ae (v:=?_) (by kernel_rfl) ?_ ?_;rotate_left
  ·intro w' hC;obtain⟨j0,j1,j2,j3,j4,j5,j6,j7,j8,j9,j10,jf⟩:=HS.out w' hC;go_simp;try with_reducible rfl
  try simp only[Act.put,sAr,sZe,sSu]
 refine ae (v:=.bool true) (by kernel_rfl) ?_ ?_
 ·intro w' hC;go_simp;refine (HC0.out _ hC).mono ?_;rintro e w'' ⟨rfl,hb2⟩;exact⟨rfl,hC.trans (hb2.mono hC.size)⟩
 try simp only[Act.put,sAr,sZe,sSu]
 iterate 3
  refine ae (v:=?_) (by kernel_rfl) ?_ ?_;rotate_left
  ·intro w' hC;obtain⟨j0,j1,j2,j3,j4,j5,j6,j7,j8,j9,j10,jf⟩:=HS.out w' hC;go_simp;try with_reducible rfl
  try simp only[Act.put,sAr,sZe,sSu]
 refine ae (v:=.bool true) (by kernel_rfl) ?_ ?_
 ·intro w' hC;go_simp;refine (HC1.out _ hC).mono ?_;rintro e w'' ⟨rfl,hb2⟩;exact⟨rfl,hC.trans (hb2.mono hC.size)⟩
 try simp only[Act.put,sAr,sZe,sSu]
 iterate 5
  refine ae (v:=?_) (by kernel_rfl) ?_ ?_;rotate_left
  ·intro w' hC;obtain⟨j0,j1,j2,j3,j4,j5,j6,j7,j8,j9,j10,jf⟩:=HS.out w' hC;go_simp;try with_reducible rfl
  try simp only[Act.put,sAr,sZe,sSu]
 refine ae (v:=.bool true) (by kernel_rfl) ?_ ?_
 ·intro w' hC;go_simp;refine (HC2.out _ hC).mono ?_;rintro e w'' ⟨rfl,hb2⟩;exact⟨rfl,hC.trans (hb2.mono hC.size)⟩
 try simp only[Act.put,sAr,sZe,sSu]
 iterate 19
  refine ae (v:=?_) (by kernel_rfl) ?_ ?_;rotate_left
  ·intro w' hC;obtain⟨j0,j1,j2,j3,j4,j5,j6,j7,j8,j9,j10,jf⟩:=HS.out w' hC;go_simp;try with_reducible rfl
  try simp only[Act.put,sAr,sZe,sSu]
 refine ae (v:=.bool true) (by kernel_rfl) ?_ ?_
 ·intro w' hC;go_simp;refine (HC4.out _ hC).mono ?_;rintro e w'' ⟨rfl,hb2⟩;exact⟨rfl,hC.trans (hb2.mono hC.size)⟩
 try simp only[Act.put,sAr,sZe,sSu]
 iterate 12
  refine ae (v:=?_) (by kernel_rfl) ?_ ?_;rotate_left
  ·intro w' hC;obtain⟨j0,j1,j2,j3,j4,j5,j6,j7,j8,j9,j10,jf⟩:=HS.out w' hC;go_simp;try with_reducible rfl
  try simp only[Act.put,sAr,sZe,sSu]
 refine ae (v:=.bool (pB (∀i (h:i<x.recs.length),fw fs.length D x.recs.length x.recs[i]))) (by kernel_rfl) ?_ ?_
 ·intro w' hC;go_simp;refine (HC6.out _ hC).mono ?_;rintro e w'' ⟨rfl,hb2⟩;exact⟨rfl,hC.trans (hb2.mono hC.size)⟩
 try simp only[Act.put,sAr,sZe,sSu]
 iterate 2
  refine ae (v:=?_) (by kernel_rfl) ?_ ?_;rotate_left
  ·intro w' hC;obtain⟨j0,j1,j2,j3,j4,j5,j6,j7,j8,j9,j10,jf⟩:=HS.out w' hC;go_simp;try with_reducible rfl
  try simp only[Act.put,sAr,sZe,sSu]
 refine wpQuiet_nil ?_;intro w2 q2;go_wp2;go_ret
 exact⟨bx (by rw[cT];exact⟨fun q=>⟨H0.out,H1.out,by have:=H2.out;exact⟨by have:=this.1;omega,by have:=this.2;omega⟩,⟨hz,H3.out⟩,H4.out,H5.out,q⟩,fun q=>q.2.2.2.2.2.2⟩),HB.out.trans (q2.mono HB.out.size)⟩
end
end Go.Proofs.YtdlkbbgmjilccaaGreatDoor
