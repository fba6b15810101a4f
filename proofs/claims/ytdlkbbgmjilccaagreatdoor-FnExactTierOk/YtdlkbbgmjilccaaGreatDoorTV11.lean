/- TV11 -/
import Derived.Test.YtdlkbbgmjilccaaGreatDoorTV9
import Derived.Test.YtdlkbbgmjilccaaGreatDoorTV10
set_option maxHeartbeats 32000000
set_option maxRecDepth 100000
namespace Go.Proofs.YtdlkbbgmjilccaaGreatDoor
open Go.RowKit
theorem specP_iff{fs:List Fn}{f p:Nat}{kd tg:Int}(hf:f<fs.length)(hp:p<fs[f].code.length):cK fs ⟨f,p,kd,tg⟩↔(kd=1/\(11<=fs[f].code[p].1/\fs[f].code[p].1<=14)/\tg=0)\/(kd=2/\fs[f].code[p].1=23/\cZ fs tg fs[f].code[p].2):=by
 unfold cK dp;rw[dF hf hp];simp only[Option.getD_some,Option.some.injEq,Si.mk.injEq,true_and,reduceCtorEq,and_false,or_false]
 constructor
 ·rintro (⟨h1,h2,h3,h4⟩ | ⟨h1,h2,h3⟩)
  ·exact .inl ⟨h3,⟨h1,h2⟩,h4⟩
  ·exact .inr ⟨h3.1,h1,h2⟩
 ·rintro (⟨h1,⟨h2,h3⟩,h4⟩ | ⟨h1,h2,h3⟩)
  ·exact .inl ⟨h2,h3,h1,h4⟩
  ·exact .inr ⟨h2,h3,h1,trivial⟩
theorem specP_none{fs:List Fn}{s:Si}(h:insD fs s.f s.pc=none):¬cK fs s:=by
 unfold cK dp;rw[h];simp
theorem specOk_any(a1 a2:Option Addr)(nt c1 c2:Nat)(fs:List Fn)(s:Si)(w:World)(hc:∀f∈fs,f.code.length<=1048576)(hn:fs.length<=1048576)(hm:FnsAt w 0 a2 fs) :
  Calls Tryz.prog 139 #[.agg #[.slice a1 nt c1,.slice a2 fs.length c2],.agg #[.int .i64 s.f,.int .i64 s.pc,.int .i64 s.seen,.int .i64 s.target]] w fun e w'=>e=.returned (.bool (pB (cK fs s)))/\Below w.heap.size w w':=by
 obtain⟨sf,sp,kd,tg⟩:=s;dsimp only
 obtain⟨r,hr⟩:∃r,r=pB (cK fs ⟨sf,sp,kd,tg⟩):=⟨_,rfl⟩;rw[<-hr];have HR:Hid (r=pB (cK fs ⟨sf,sp,kd,tg⟩)):=hr;clear hr;obtain⟨nf,hnf⟩:∃nf,nf=fs.length:=⟨_,rfl⟩;rw[<-hnf] at hn ⊢;have HNF:Hid (nf=fs.length):=hnf;clear hnf;obtain⟨w0,hw0⟩:∃w0,w0=(w.alloc (.cells #[.slice a1 nt c1,.slice a2 nf c2] 42)).alloc (.cells #[.int .i64 sf,.int .i64 sp,.int .i64 kd,.int .i64 tg] 171):=⟨_,rfl⟩;have hB:Below w.heap.size w w0:=by rw[hw0];exact (gM.alloc nL _).alloc (by simp) _
 have hX:w0.heap[w.heap.size]?=some (.cells #[.slice a1 nt c1,.slice a2 nf c2] 42 (0,0)):=by rw[hw0];exact al (ah _ _ _) _
 have hY:w0.heap[w.heap.size+1]?=some (.cells #[.int .i64 sf,.int .i64 sp,.int .i64 kd,.int .i64 tg] 171 (0,0)):=by rw[hw0];simpa using ah (w.alloc (.cells #[.slice a1 nt c1,.slice a2 nf c2] 42)) #[.int .i64 sf,.int .i64 sp,.int .i64 kd,.int .i64 tg] 171
 have HZ0:Hid (w.heap.size+2<=w0.heap.size):=by rw[hw0];show _<=_;simp
 have HS:Hid (∀w',Below w0.heap.size w0 w'->w'.cell? ⟨w.heap.size,0,none⟩=some (.slice a1 nt c1)/\w'.cell? ⟨w.heap.size,1,none⟩=some (.slice a2 nf c2)/\w'.cell? ⟨w.heap.size+1,0,none⟩=some (.int .i64 sf)/\w'.cell? ⟨w.heap.size+1,1,none⟩=some (.int .i64 sp)/\w'.cell? ⟨w.heap.size+1,2,none⟩=some (.int .i64 kd)/\w'.cell? ⟨w.heap.size+1,3,none⟩=some (.int .i64 tg)):=fun w' hb=>
  ⟨ckb hX hb rfl,ckb hX hb rfl,ckb hY hb rfl,ckb hY hb rfl,ckb hY hb rfl,ckb hY hb rfl⟩
 have HS2:Hid (∀w',Below (w.heap.size+2) w0 w'->w'.cell? ⟨w.heap.size,0,none⟩=some (.slice a1 nt c1)/\w'.cell? ⟨w.heap.size,1,none⟩=some (.slice a2 nf c2)/\w'.cell? ⟨w.heap.size+1,0,none⟩=some (.int .i64 sf)/\w'.cell? ⟨w.heap.size+1,1,none⟩=some (.int .i64 sp)/\w'.cell? ⟨w.heap.size+1,2,none⟩=some (.int .i64 kd)/\w'.cell? ⟨w.heap.size+1,3,none⟩=some (.int .i64 tg)):=fun w' hb=>
  ⟨by rw[hb.cell (by simp),aa hX];rfl,by rw[hb.cell (by simp),aa hX];rfl,by rw[hb.cell (by simp),aa hY];rfl,by rw[hb.cell (by simp),aa hY];rfl,by rw[hb.cell (by simp),aa hY];rfl,by rw[hb.cell (by simp),aa hY];rfl⟩
 clear hX hY;go_enter Tryz.func139,Tryz.ntmps139
 go_upto_region 1 with fail
 rw[<-hw0];clear hw0;refine au (by kernel_rfl) (by kernel_rfl) ?_
 iterate 5
  refine ae (v:=?_) (by kernel_rfl) ?_ ?_;rotate_left
  ·intro w' hC;obtain⟨j0,j1,j2,j3,j4,j5⟩:=HS.out w' hC;go_simp;try with_reducible rfl
  try simp only[Act.put,sAr,sZe,sSu]
 refine ae (v:=.int .i64 ((nf:Int)-1)) (by kernel_rfl) ?_ ?_
 ·intro w' hC;go_simp
  (rw[IntKind.wrap_i64];omega)
 try simp only[Act.put,sAr,sZe,sSu]
 by_cases h1:0<=sf/\sf<=(nf:Int)-1
 case neg=>
  have HX:Hid (r=false):=by show r=false;rw[HR.out];exact aw (specP_none (by
   cases e:insD fs sf sp with
   | none=>rfl
   | some x=>obtain⟨f',p',hf,hp,rfl,rfl,rfl⟩:=dN e;exact absurd ⟨by omega,by have:=HNF.out;omega⟩ h1))
  refine ae (v:=.bool false) (by kernel_rfl) ?_ ?_
  ·intro w' hC;go_simp;refine (a9 (lo:=0) (hi:=(nf:Int)-1) h1 w').mono ?_;rintro e w'' ⟨rfl,rfl⟩;exact⟨rfl,hC⟩
  try simp only[Act.put,sAr,sZe,sSu]
  iterate 2
   refine ae (v:=?_) (by kernel_rfl) ?_ ?_;rotate_left
   ·intro w' hC;go_simp;try with_reducible rfl
   try simp only[Act.put,sAr,sZe,sSu]
  iterate 13 go_big_quiet_skip
  refine ae (v:=?_) (by kernel_rfl) ?_ ?_;rotate_left
  ·intro w' hC;go_simp;try with_reducible rfl
  try simp only[Act.put,sAr,sZe,sSu]
  refine wpQuiet_nil ?_;intro w2 q2;obtain rfl:=HX.out;clear h1;go_wp2;go_ret
  exact⟨rfl,hB.trans (q2.mono hB.size)⟩
 refine ae (v:=.bool true) (by kernel_rfl) ?_ ?_
 ·intro w' hC;go_simp;refine (aE (lo:=0) (hi:=(nf:Int)-1) h1 w').mono ?_;rintro e w'' ⟨rfl,rfl⟩;exact⟨rfl,hC⟩
 try simp only[Act.put,sAr,sZe,sSu]
 obtain⟨f,rfl⟩:∃f:Nat,sf=f:=⟨sf.toNat,by omega⟩;have hf:f<fs.length:=by have:=HNF.out;omega
 have hf2:f<nf:=by omega
 obtain⟨b,off,ca,cc,rfl,-,d1,d2,d3,hcode⟩:=hm f hf;have hcl:=hc _ (n_l hf);obtain⟨nc,hnc⟩:∃nc,nc=fs[f].code.length:=⟨_,rfl⟩;rw[<-hnc] at d3 hcl;have HNC:Hid (nc=fs[f].code.length):=hnc;clear hnc;have d3':=cell_later hB d3;have HD:Hid (∀w',Below w0.heap.size w0 w'->w'.cell? ⟨b,off+f*3+2,none⟩=some (.slice ca nc cc)):=fun w' q=>cell_later q d3'
 clear h1 d1 d2;have hi1:(0:Int)<=(f:Int):=by omega
 have hi2:(f:Int)<(nf:Int):=by omega
 iterate 2
  refine ae (v:=?_) (by kernel_rfl) ?_ ?_;rotate_left
  ·intro w' hC;go_simp;try with_reducible rfl
  try simp only[Act.put,sAr,sZe,sSu]
 iterate 8
  refine ae (v:=?_) (by kernel_rfl) ?_ ?_;rotate_left
  ·intro w' hC;obtain⟨j0,j1,j2,j3,j4,j5⟩:=HS.out w' hC;have d:=HD.out w' hC;go_simp;try with_reducible rfl
  try simp only[Act.put,sAr,sZe,sSu]
 refine ae (v:=?_) (by kernel_rfl) ?_ ?_;rotate_left
 ·intro w' hC;obtain⟨j0,j1,j2,j3,j4,j5⟩:=HS.out w' hC;have d:=HD.out w' hC;go_simp;try with_reducible rfl
 try simp only[Act.put,sAr,sZe,sSu]
 refine ae (v:=?_) (by kernel_rfl) ?_ ?_;rotate_left
 ·intro w' hC;go_simp;try with_reducible rfl
 try simp only[Act.put,sAr,sZe,sSu]
 refine ae (v:=.int .i64 ((nc:Int)-1)) (by kernel_rfl) ?_ ?_
 ·intro w' hC;go_simp
  (rw[IntKind.wrap_i64];omega)
 try simp only[Act.put,sAr,sZe,sSu]
 by_cases h2:0<=sp/\sp<=(nc:Int)-1
 case neg=>
  have HX:Hid (r=false):=by show r=false;rw[HR.out];exact aw (specP_none (by
   cases e:insD fs f sp with
   | none=>rfl
   | some x=>
         obtain⟨f',p',hf',hp',e1,rfl,rfl⟩:=dN e;obtain rfl:f=f':=by omega
         exact absurd ⟨by omega,by have:=HNC.out;omega⟩ h2))
  refine ae (v:=.bool false) (by kernel_rfl) ?_ ?_
  ·intro w' hC;go_simp;refine (a9 (lo:=0) (hi:=(nc:Int)-1) h2 w').mono ?_;rintro e w'' ⟨rfl,rfl⟩;exact⟨rfl,hC⟩
  try simp only[Act.put,sAr,sZe,sSu]
  iterate 2
   refine ae (v:=?_) (by kernel_rfl) ?_ ?_;rotate_left
   ·intro w' hC;go_simp;try with_reducible rfl
   try simp only[Act.put,sAr,sZe,sSu]
  refine wpQuiet_nil ?_;intro w2 q2;obtain rfl:=HX.out;clear h2 d3 d3' hcode hi1 hi2;go_wp2;go_ret
  exact⟨rfl,hB.trans (q2.mono hB.size)⟩
 refine ae (v:=.bool true) (by kernel_rfl) ?_ ?_
 ·intro w' hC;go_simp;refine (aE (lo:=0) (hi:=(nc:Int)-1) h2 w').mono ?_;rintro e w'' ⟨rfl,rfl⟩;exact⟨rfl,hC⟩
 try simp only[Act.put,sAr,sZe,sSu]
 iterate 2
  refine ae (v:=?_) (by kernel_rfl) ?_ ?_;rotate_left
  ·intro w' hC;go_simp;try with_reducible rfl
  try simp only[Act.put,sAr,sZe,sSu]
 refine wpQuiet_nil ?_;intro w2 q2;obtain⟨p,rfl⟩:∃p:Nat,sp=p:=⟨sp.toNat,by omega⟩;have hp:p<fs[f].code.length:=by have:=HNC.out;omega
 have hp2:p<nc:=by omega
 obtain⟨b2,off2,rfl,-,e1,e2⟩:=hcode p hp;have HI:Hid (cK fs ⟨f,p,kd,tg⟩↔_):=specP_iff hf hp;obtain⟨op,hop⟩:∃op,op=fs[f].code[p].1:=⟨_,rfl⟩;obtain⟨ar,har⟩:∃ar,ar=fs[f].code[p].2:=⟨_,rfl⟩;rw[<-hop] at e1 HI;rw[<-har] at e2 HI;have HB2:Hid (Below w.heap.size w w2):=hB.trans (q2.mono hB.size);have HZ:Hid (w.heap.size+2<=w2.heap.size):=Nat.le_trans HZ0.out q2.size;have HS3:Hid (∀w',Below (w.heap.size+2) w2 w'->w'.cell? ⟨w.heap.size,0,none⟩=some (.slice a1 nt c1)/\w'.cell? ⟨w.heap.size,1,none⟩=some (.slice (some ⟨b,off,none⟩) nf c2)/\w'.cell? ⟨w.heap.size+1,0,none⟩=some (.int .i64 f)/\w'.cell? ⟨w.heap.size+1,1,none⟩=some (.int .i64 p)/\w'.cell? ⟨w.heap.size+1,2,none⟩=some (.int .i64 kd)/\w'.cell? ⟨w.heap.size+1,3,none⟩=some (.int .i64 tg)):=fun w' q=>HS2.out w' ((q2.mono HZ0.out).trans q)
 have HE:Hid (∀w',Below w.heap.size w2 w'->w'.cell? ⟨b,off+f*3+2,none⟩=some (.slice (some ⟨b2,off2,none⟩) nc cc)/\w'.cell? ⟨b2,off2+p*2,none⟩=some (.int .i64 op)/\w'.cell? ⟨b2,off2+p*2+1,none⟩=some (.int .i64 ar)):=fun w' q=>by
  have q':=HB2.out.trans q;exact⟨cell_later q' d3,cell_later q' e1,cell_later q' e2⟩
 have HPAR:Hid (∀(t:Nat) (h:t<fs.length) w',Below w.heap.size w2 w'->w'.cell? ⟨b,off+t*3,none⟩=some (.int .i64 fs[t].params)):=fun t h w' q=>by
  obtain⟨b',off',ca',cc',he,-,x1,-⟩:=hm t h
  cases he;exact cell_later (HB2.out.trans q) x1
 clear hop har h2 d3 d3' e1 e2 hcode hm hc HD q2 HS HS2 HZ0 hcl hp HNC hf;obtain⟨j0,j1,j2,j3,j4,j5⟩:=HS3.out w2 gM;obtain⟨k0,k1,k2⟩:=HE.out w2 gM;have q:Below w2.heap.size w2 w2.drew:=gM.drew;go_upto_region 3 with fail
 go_cut [5] from 29 to 40 (fun s5 wx=>∃g,s5=.pointer (some ⟨g,0,none⟩)/\wx.heap[g]?=some (.cells #[.int .i64 op,.int .i64 ar] 153 (0,0))/\Below w2.heap.size w2 wx)
 case first=>
  go_region_held3 (fun w'=>(w'.cell? ⟨w.heap.size,0,none⟩=some (.slice a1 nt c1)/\w'.cell? ⟨w.heap.size,1,none⟩=some (.slice (some ⟨b,off,none⟩) nf c2)/\w'.cell? ⟨w.heap.size+1,0,none⟩=some (.int .i64 f)/\w'.cell? ⟨w.heap.size+1,1,none⟩=some (.int .i64 p)/\w'.cell? ⟨w.heap.size+1,2,none⟩=some (.int .i64 kd)/\w'.cell? ⟨w.heap.size+1,3,none⟩=some (.int .i64 tg))/\w'.cell? ⟨b,off+f*3+2,none⟩=some (.slice (some ⟨b2,off2,none⟩) nc cc)/\w'.cell? ⟨b2,off2+p*2,none⟩=some (.int .i64 op)/\w'.cell? ⟨b2,off2+p*2+1,none⟩=some (.int .i64 ar))
   (first
    | exact⟨⟨j0,j1,j2,j3,j4,j5⟩,k0,k1,k2⟩
    | exact⟨HS3.out _ (q.mono HZ.out),HE.out _ (q.mono HB2.out.size)⟩
    | exact⟨HS3.out _ ((q.mono HZ.out).alloc (Nat.le_trans HZ.out q.size) _),HE.out _ ((q.mono HB2.out.size).alloc (Nat.le_trans HB2.out.size q.size) _)⟩
    | exact⟨HS3.out _ ((((q.mono HZ.out).alloc (Nat.le_trans HZ.out q.size) _).setCell (Nat.le_trans HZ.out q.size) _).setCell (Nat.le_trans HZ.out q.size) _),HE.out _ ((((q.mono HB2.out.size).alloc (Nat.le_trans HB2.out.size q.size) _).setCell (Nat.le_trans HB2.out.size q.size) _).setCell (Nat.le_trans HB2.out.size q.size) _)⟩)
   (fail)
  all_goals
   go_wp2_with fail
   go_meet
   case rel=>
    first
     | exact⟨_,rfl,ah _ _ _,q.alloc q.size _⟩
     | trace_state
 case rest=>
  obtain⟨g,rfl,hG,hq⟩:=hcut;have HB3:Hid (Below w.heap.size w wc):=HB2.out.trans (hq.mono HB2.out.size);have c0:=aa hG;clear j0 j1 j2 j3 j4 j5 q k0 k1 k2
  have HS4:Hid (∀w',Below wc.heap.size wc w'->(w'.cell? ⟨w.heap.size,0,none⟩=some (.slice a1 nt c1)/\w'.cell? ⟨w.heap.size,1,none⟩=some (.slice (some ⟨b,off,none⟩) nf c2)/\w'.cell? ⟨w.heap.size+1,0,none⟩=some (.int .i64 f)/\w'.cell? ⟨w.heap.size+1,1,none⟩=some (.int .i64 p)/\w'.cell? ⟨w.heap.size+1,2,none⟩=some (.int .i64 kd)/\w'.cell? ⟨w.heap.size+1,3,none⟩=some (.int .i64 tg))/\w'.cell? ⟨g,0,none⟩=some (.int .i64 op)/\w'.cell? ⟨g,1,none⟩=some (.int .i64 ar)):=fun w' q=>
   ⟨HS3.out w' ((hq.mono HZ.out).trans (q.mono (Nat.le_trans HZ.out hq.size))),ckb hG q rfl,ckb hG q rfl⟩
  have HP4:Hid (∀(t:Nat) (h:t<fs.length) w',Below wc.heap.size wc w'->w'.cell? ⟨b,off+t*3,none⟩=some (.int .i64 fs[t].params)):=fun t h w' q=>HPAR.out t h w' ((hq.mono HB2.out.size).trans (q.mono (Nat.le_trans HB2.out.size hq.size)))
  obtain⟨⟨j0,j1,j2,j3,j4,j5⟩,k0,k1⟩:=HS4.out wc gM;clear HS3 HE hq HB2 hG HPAR HZ c0 hB;have YES:((kd=1/\(11<=op/\op<=14)/\tg=0)\/(kd=2/\op=23/\cZ fs tg ar))->r=true:=fun h=>by rw[HR.out];exact ay (HI.out.2 h)
  have NO:¬((kd=1/\(11<=op/\op<=14)/\tg=0)\/(kd=2/\op=23/\cZ fs tg ar))->r=false:=fun h=>by rw[HR.out];exact aw (fun h'=>h (HI.out.1 h'))
  have HY:Hid (((kd=1/\(11<=op/\op<=14)/\tg=0)\/(kd=2/\op=23/\cZ fs tg ar))->r=true):=YES;have HN:Hid (¬((kd=1/\(11<=op/\op<=14)/\tg=0)\/(kd=2/\op=23/\cZ fs tg ar))->r=false):=NO;clear YES NO HI HR;by_cases h1:kd=1
  case pos=>
   subst h1;by_cases hA:11<=op/\op<=14\/op=23
   case neg=>
    obtain rfl:=HN.out (fun h=>by omega);have HA:Hid (¬(11<=op/\op<=14\/op=23)):=hA;clear hA HY HN;go_wp2_with (go_at_call 91;refine (is_no HA.out _).mono ?_;rintro e w' ⟨rfl,rfl⟩)
    go_ret
    exact⟨rfl,HB3.out⟩
   have HA:Hid (11<=op/\op<=14\/op=23):=hA;by_cases h23:op=23
   ·obtain rfl:=HN.out (fun h=>by omega);subst h23;clear hA HY HN;go_wp2_with (go_at_call 91;refine (bP HA.out _).mono ?_;rintro e w' ⟨rfl,rfl⟩)
    go_ret
    exact⟨rfl,HB3.out⟩
   have k23:(op != 23)=true:=by simpa using h23
   by_cases ht:tg=0
   ·subst ht;obtain rfl:=HY.out (.inl ⟨rfl,by omega,rfl⟩);clear hA HY HN;go_wp2_with (go_at_call 91;refine (bP HA.out _).mono ?_;rintro e w' ⟨rfl,rfl⟩)
    go_ret
    exact⟨by first | rfl | exact aj (by first | rfl | (simp;done) | (simp;omega) | simp_all),HB3.out⟩
   ·obtain rfl:=HN.out (fun h=>by omega);clear hA HY HN;go_wp2_with (go_at_call 91;refine (bP HA.out _).mono ?_;rintro e w' ⟨rfl,rfl⟩)
    go_ret
    exact⟨by first | rfl | exact aj (by first | rfl | (simp;done) | (simp;omega) | simp_all),HB3.out⟩
  by_cases h2:kd=2
  case neg=>
   obtain rfl:=HN.out (fun h=>by omega);go_wp2;go_ret
   exact⟨rfl,HB3.out⟩
  subst h2;go_upto_region 8 with fail
  refine au (by kernel_rfl) (by kernel_rfl) ?_
  iterate 2
   refine ae (v:=?_) (by kernel_rfl) ?_ ?_;rotate_left
   ·intro w' hC;obtain⟨⟨j0,j1,j2,j3,j4,j5⟩,k0,k1⟩:=HS4.out w' hC;go_simp;try with_reducible rfl
   try simp only[Act.put,sAr,sZe,sSu]
  by_cases h23:op=23
  case neg=>
   obtain rfl:=HN.out (fun h=>by omega);have k23:(op == 23)=false:=by simpa using h23
   iterate 2
    refine ae (v:=?_) (by kernel_rfl) ?_ ?_;rotate_left
    ·intro w' hC;go_simp;try with_reducible rfl
    try simp only[Act.put,sAr,sZe,sSu]
   iterate 7 go_big_quiet_skip
   iterate 2
    refine ae (v:=?_) (by kernel_rfl) ?_ ?_;rotate_left
    ·intro w' hC;go_simp;try with_reducible rfl
    try simp only[Act.put,sAr,sZe,sSu]
   iterate 10 go_big_quiet_skip
   iterate 2
    refine ae (v:=?_) (by kernel_rfl) ?_ ?_;rotate_left
    ·intro w' hC;go_simp;try with_reducible rfl
    try simp only[Act.put,sAr,sZe,sSu]
   refine wpQuiet_nil ?_;intro w2 q2;go_wp2;go_ret
   exact⟨rfl,HB3.out.trans (q2.mono HB3.out.size)⟩
  subst h23
  iterate 2
   refine ae (v:=?_) (by kernel_rfl) ?_ ?_;rotate_left
   ·intro w' hC;go_simp;try with_reducible rfl
   try simp only[Act.put,sAr,sZe,sSu]
  iterate 5
   refine ae (v:=?_) (by kernel_rfl) ?_ ?_;rotate_left
   ·intro w' hC;obtain⟨⟨j0,j1,j2,j3,j4,j5⟩,k0,k1⟩:=HS4.out w' hC;go_simp;try with_reducible rfl
   try simp only[Act.put,sAr,sZe,sSu]
  refine ae (v:=.int .i64 ((nf:Int)-1)) (by kernel_rfl) ?_ ?_
  ·intro w' hC;go_simp
   (rw[IntKind.wrap_i64];omega)
  try simp only[Act.put,sAr,sZe,sSu]
  by_cases hT:0<=tg/\tg<=(nf:Int)-1
  case neg=>
   obtain rfl:=HN.out (fun h=>by
    rcases h with h | ⟨-,-,h3,hf,-⟩
    ·omega
    ·have:=HNF.out;omega)
   refine ae (v:=.bool false) (by kernel_rfl) ?_ ?_
   ·intro w' hC;go_simp;refine (a9 (lo:=0) (hi:=(nf:Int)-1) hT w').mono ?_;rintro e w'' ⟨rfl,rfl⟩;exact⟨rfl,hC⟩
   try simp only[Act.put,sAr,sZe,sSu]
   iterate 2
    refine ae (v:=?_) (by kernel_rfl) ?_ ?_;rotate_left
    ·intro w' hC;go_simp;try with_reducible rfl
    try simp only[Act.put,sAr,sZe,sSu]
   iterate 10 go_big_quiet_skip
   iterate 2
    refine ae (v:=?_) (by kernel_rfl) ?_ ?_;rotate_left
    ·intro w' hC;go_simp;try with_reducible rfl
    try simp only[Act.put,sAr,sZe,sSu]
   refine wpQuiet_nil ?_;intro w2 q2;go_wp2;go_ret
   exact⟨rfl,HB3.out.trans (q2.mono HB3.out.size)⟩
  refine ae (v:=.bool true) (by kernel_rfl) ?_ ?_
  ·intro w' hC;go_simp;refine (aE (lo:=0) (hi:=(nf:Int)-1) hT w').mono ?_;rintro e w'' ⟨rfl,rfl⟩;exact⟨rfl,hC⟩
  try simp only[Act.put,sAr,sZe,sSu]
  obtain⟨t,rfl⟩:∃t:Nat,tg=t:=⟨tg.toNat,by omega⟩;have ht:t<fs.length:=by have:=HNF.out;omega
  have hi3:(0:Int)<=(t:Int):=by omega
  have hi4:(t:Int)<(nf:Int):=by omega
  clear hT;have HP5:Hid (∀w',Below wc.heap.size wc w'->w'.cell? ⟨b,off+t*3,none⟩=some (.int .i64 fs[t].params)):=HP4.out t ht;have HTK:Hid (cZ fs t ar↔fs[t].params=ar):=by
   show _↔_
   exact⟨fun h=>by obtain⟨-,hf,he⟩:=h;simpa using he,fun h=>⟨by omega,by simpa using ht,by simpa using h⟩⟩
  obtain⟨pr,hpr⟩:∃pr,pr=fs[t].params:=⟨_,rfl⟩;rw[<-hpr] at HP5 HTK;clear hpr HP4
  iterate 2
   refine ae (v:=?_) (by kernel_rfl) ?_ ?_;rotate_left
   ·intro w' hC;go_simp;try with_reducible rfl
   try simp only[Act.put,sAr,sZe,sSu]
  iterate 9
   refine ae (v:=?_) (by kernel_rfl) ?_ ?_;rotate_left
   ·intro w' hC;obtain⟨⟨j0,j1,j2,j3,j4,j5⟩,k0,k1⟩:=HS4.out w' hC;have d:=HP5.out w' hC;go_simp;try with_reducible rfl
   try simp only[Act.put,sAr,sZe,sSu]
  by_cases hE:pr=ar
  case pos=>
   obtain rfl:=HY.out (.inr ⟨rfl,rfl,HTK.out.2 hE⟩);have kE:(pr == ar)=true:=by simpa using hE
   clear hE;refine ae (v:=.bool true) (by kernel_rfl) ?_ ?_
   ·intro w' hC;go_simp
   try simp only[Act.put,sAr,sZe,sSu]
   iterate 2
    refine ae (v:=?_) (by kernel_rfl) ?_ ?_;rotate_left
    ·intro w' hC;go_simp;try with_reducible rfl
    try simp only[Act.put,sAr,sZe,sSu]
   refine wpQuiet_nil ?_;intro w2 q2;go_wp2;go_ret
   exact⟨rfl,HB3.out.trans (q2.mono HB3.out.size)⟩
  obtain rfl:=HN.out (fun h=>by
   rcases h with h | ⟨-,-,h3⟩
   ·omega
   ·exact hE (HTK.out.1 h3))
  have kE:(pr == ar)=false:=by simpa using hE
  clear hE;refine ae (v:=.bool false) (by kernel_rfl) ?_ ?_
  ·intro w' hC;go_simp
  try simp only[Act.put,sAr,sZe,sSu]
  iterate 2
   refine ae (v:=?_) (by kernel_rfl) ?_ ?_;rotate_left
   ·intro w' hC;go_simp;try with_reducible rfl
   try simp only[Act.put,sAr,sZe,sSu]
  refine wpQuiet_nil ?_;intro w2 q2;go_wp2;go_ret
  exact⟨rfl,HB3.out.trans (q2.mono HB3.out.size)⟩
end Go.Proofs.YtdlkbbgmjilccaaGreatDoor
