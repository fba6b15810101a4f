/- RV42 -/
import Derived.Test.YtbjmgmmekmfjhaaGreatDoorRV37
import Derived.Test.YtbjmgmmekmfjhaaGreatDoorRV23
import Derived.Test.YtbjmgmmekmfjhaaGreatDoorRV41
import Derived.Test.YtbjmgmmekmfjhaaGreatDoorRV39
import Derived.Test.YtbjmgmmekmfjhaaGreatDoorRV38
set_option maxHeartbeats 32000000
set_option maxRecDepth 100000
namespace Go.Proofs.YtbjmgmmekmfjhaaGreatDoor
open Go.RowKit
theorem fM.low{vals:List Vl}{nums:List Int}{x:Ex}{hs:List (List Vl)}{w w1 w':World}{e:Ending}(h:fM vals nums x hs w1 e w')(hl:w.heap.size<=w1.heap.size):fM vals nums x hs w e w':=by
 obtain⟨J,hJ,h | h⟩:=h
 ·obtain⟨h1,F,mid,curF,q,bs,e1,y⟩:=h;refine⟨J,hJ,.inl ⟨h1,F,mid,curF,q,bs,e1,⟨Nat.le_trans hl y.lo,y.fm,y.blk,y.size,fun j hj=>?_,y.ap,y.row⟩⟩⟩;obtain⟨g1,g2,l1,l2,r⟩:=y.each j hj;exact⟨g1,g2,Nat.le_trans hl l1,Nat.le_trans hl l2,r⟩
 ·exact⟨J,hJ,.inr h⟩
def gN (ts:List ByteArray)(fs:List Fn)(D:aR)(x:Int)(vals:List Vl)(nums:List Int)(hs:List (List Vl))(w:World)(e:Ending)(w':World):Prop:=
 (∃(k:Nat) (h:k<D.exits.length),x=k/\cL ts fs D x vals nums hs/\fM vals nums D.exits[k] hs w e w')\/(¬cL ts fs D x vals nums hs/\e=.returned (.tuple #[.slice none 0 0,.slice none 0 0]))
theorem iRebuild_any(a1 a2 oa ea va na ha:Option Addr)(c1 c2 oc ec vc nc hcp:Nat)(ts:List ByteArray)(fs:List Fn)(D:aR)(x:Int)(vals:List Vl)(nums:List Int)(hs:List (List Vl))(w:World)(hsm:dm ts fs)(hd:a8 D)(hm:bc w 0 a1 ts)(hm2:FnsAt w 0 a2 fs)(hf:br w 0 oa ea D)(hsh:ShAt w)(hDB:DB w)
  (hva:aQ w 0 va vals)(hna:a9 w 0 na nums)(hH:bT w 0 ha hs)(hv:aE vals)(hnl:nums.length<=1048576)(hhl:hs.length<=1048576)(hhc:∀r∈hs,aE r) :
  Calls Tryz.prog 31 #[.agg #[.slice a1 ts.length c1,.slice a2 fs.length c2],.agg (aK oa ea oc ec D),.int .i64 x,.slice va vals.length vc,.slice na nums.length nc,.slice ha hs.length hcp] w fun e w'=>gN ts fs D x vals nums hs w e w'/\Below w.heap.size w w':=by
 have hex:=fun (w:World) (k1:bc w 0 a1 ts) (k2:FnsAt w 0 a2 fs) (k3:br w 0 oa ea D) (k4:ShAt w) (k5:DB w)=>exitOf_any a1 a2 oa ea c1 c2 oc ec ts fs D x w hsm hd k1 k2 k3 k4 k5
 have hrf:=fun (w:World) (k1:aQ w 0 va vals) (k2:a9 w 0 na nums)=>regsFit_any a1 a2 oa ea va na ts.length c1 fs.length c2 oc ec vc nc D vals nums hs.length w hv hnl k1 k2
 unfold aK at hex hrf ⊢;have HEX:=hidE hex;have HRF:=hidE hrf;clear hex hrf;obtain⟨wA,hwA⟩:∃wA,wA=(w.alloc (.cells #[.slice a1 ts.length c1,.slice a2 fs.length c2] 36)).alloc (.cells #[.int .i64 D.fn,.int .i64 D.entry,.int .i64 D.vals,.int .i64 D.nums,.slice oa D.ops.length oc,.slice ea D.exits.length ec] 41):=⟨_,rfl⟩;have hbA:Below w.heap.size w wA:=by rw[hwA];exact (b_r.alloc n_l _).alloc (by simp) _
 have hM0:wA.heap[w.heap.size]?=some (.cells #[.slice a1 ts.length c1,.slice a2 fs.length c2] 36 (0,0)):=by rw[hwA];exact au (al _ _ _) _
 have hF0:wA.heap[w.heap.size+1]?=some (.cells #[.int .i64 D.fn,.int .i64 D.entry,.int .i64 D.vals,.int .i64 D.nums,.slice oa D.ops.length oc,.slice ea D.exits.length ec] 41 (0,0)):=by rw[hwA];exact aA _ _ _ _ (by simp)
 have m0:=ae hM0;have f0:=ae hF0;go_enter Tryz.func31,Tryz.ntmps31
 go_upto_region 1 with fail
 rw[<-hwA];clear hwA;go_wp2_with fail
 refine (HEX.out wA (hm.mono hbA) (hm2.mono hbA) (hf.mono hbA) (hsh.mono hbA) (hDB.mono hbA)).mono ?_;rintro e w1 ⟨⟨b,E,fa,ra,fc,rc,rfl,hE⟩,hb1⟩;clear HEX m0 f0;have hM1:=ah hM0 hb1;have hF1:=ah hF0 hb1;have hB1:=hbA.trans (hb1.mono hbA.size);unfold dF;obtain⟨w2,hw2⟩:∃w2,w2=w1.alloc (.cells #[.int .i64 E.kind,.int .i64 E.spec.f,.int .i64 E.spec.pc,.int .i64 E.spec.seen,.int .i64 E.spec.target,.slice fa E.frames.length fc,.slice ra E.recs.length rc] 101):=⟨_,rfl⟩;have hb2:Below w1.heap.size w1 w2:=by rw[hw2];exact b_r.alloc n_l _
 have hX2:w2.heap[w1.heap.size]?=some (.cells #[.int .i64 E.kind,.int .i64 E.spec.f,.int .i64 E.spec.pc,.int .i64 E.spec.seen,.int .i64 E.spec.target,.slice fa E.frames.length fc,.slice ra E.recs.length rc] 101 (0,0)):=by rw[hw2];exact al _ _ _
 have hB2:=hB1.trans (hb2.mono hB1.size);have m2:=ae (ah hM1 hb2);have f2:=ae (ah hF1 hb2);have hM2:=ah hM1 hb2;go_upto_region 2 with fail
 rw[<-hw2];clear hw2 hM0 hF0 hM1 hF1;rcases hE with ⟨rfl,hFP,k,hk,rfl,rfl,hEF,hER⟩ | ⟨rfl,hno,-⟩
 case inr=>
  have HN:Hid (¬cL ts fs D x vals nums hs):=fun q=>hno ⟨q.1,q.2.1⟩
  clear hno;go_wp2;go_ret2
  exact⟨.inr ⟨HN.out,rfl⟩,hB2⟩
 have HFP:=hidE hFP;have HEF:=hidE hEF;have HER:=hidE hER;clear hFP hEF hER;go_wp2_with fail
 refine (HRF.out w2 (hva.mono hB2) (hna.mono hB2)).mono ?_;rintro e w3 ⟨rfl,hb3⟩;have hB3:=hB2.trans (hb3.mono hB2.size);have m3:=ae (ah hM2 hb3);have hX3:=ah hX2 hb3;clear m2 f2 HRF;by_cases hR:gH fs.length D vals nums hs.length
 case neg=>
  have HN:Hid (¬cL ts fs D k vals nums hs):=fun q=>hR q.2.2.1
  rw[aJ hR];clear hR;go_wp2;go_ret2
  exact⟨.inr ⟨HN.out,rfl⟩,hB3⟩
 have HR:=hidE hR;rw[aL hR];clear hR;go_wp2_with fail
 refine (heapOk_any a1 a2 ts.length c1 fs.length c2 ha hs hcp w3 hhl hhc (hH.mono hB3)).mono ?_;rintro e w4 ⟨rfl,hb4⟩;have hB4:=hB3.trans (hb4.mono hB3.size);have x4:=ae (ah hX3 hb4);clear m3;by_cases hP:ic fs.length hs
 case neg=>
  have HN:Hid (¬cL ts fs D k vals nums hs):=fun q=>hP q.2.2.2
  rw[aJ hP];clear hP x4;go_wp2;go_ret2
  exact⟨.inr ⟨HN.out,rfl⟩,hB4⟩
 have hok:cL ts fs D k vals nums hs:=⟨HFP.out,⟨by omega,by omega⟩,HR.out,hP⟩;have hfit:=hok.fits hd hk;have HOK:=hidE hok;rw[aL hP];clear hP hok;have hbA4:Below wA.heap.size wA w4:=((hb1.trans (hb2.mono hb1.size)).trans (hb3.mono (hb1.trans (hb2.mono hb1.size)).size)).trans (hb4.mono ((hb1.trans (hb2.mono hb1.size)).trans (hb3.mono (hb1.trans (hb2.mono hb1.size)).size)).size);have hre:=rebuilt_any D.exits[k] fa ra va na ha fc rc vc nc hcp vals nums hs w4 (HEF.out.mono hbA4) (HER.out.mono hbA4) (hva.mono hB4) (hna.mono hB4) (hH.mono hB4) hv hnl hhl hhc (by have:=hfit.fn;omega) (fun f hf=>⟨(hfit.fl f hf).1,(hfit.fl f hf).2,fun s hs=>(hfit.f1 f hf s hs).fits,fun s hs=>(hfit.f2 f hf s hs).fits⟩) hfit.few (fun r hr=>⟨hfit.rl r hr,fun s hs=>(hfit.rs r hr s hs).fits,hfit.ri r hr⟩) hfit.rn hfit.fi;unfold dF at hre;go_wp2_with fail
 refine hre.mono ?_;rintro e w5 ⟨hP5,hb5⟩;have hB5:=hB4.trans (hb5.mono hB4.size);have HP:Hid (fM vals nums D.exits[k] hs w e w5):=hP5.low hB4.size;clear x4;obtain⟨y0,y1,rfl⟩:∃y0 y1,e=.returned (.tuple #[y0,y1]):=by
  obtain⟨J,-,⟨-,F,mid,cF,q,bs,e1,-⟩ | ⟨-,e1⟩⟩:=hP5
  ·exact⟨_,_,e1⟩
  ·exact⟨_,_,e1⟩
 clear hP5;go_wp2;go_ret2
 exact⟨.inl ⟨k,hk,rfl,HOK.out,HP.out⟩,hB5⟩
theorem markFrameS_nil(k:Int)(w:World):Calls Tryz.prog 37 #[.slice none 0 0,.int .i64 k] w fun e w'=>e=.returned (.int .i64 k)/\w'=w:=by
 go_enter Tryz.func37,Tryz.ntmps37
 go_wp2;go_loopw [1,5] (fun q i wr=>q=.int .i64 k/\i=.int .i64 0/\wr=w) (fun _ _ _=>0)
 case atStart=>exact⟨rfl,rfl,rfl⟩
 case round=>
  obtain⟨rfl,rfl,rfl⟩:=hrel;go_wp2;go_ret
  exact⟨rfl,rfl⟩
theorem markRecS_nil(k:Int)(w:World):Calls Tryz.prog 36 #[.slice none 0 0,.int .i64 k] w fun e w'=>e=.returned (.int .i64 k)/\w'=w:=by
 go_enter Tryz.func36,Tryz.ntmps36
 go_wp2;go_loopw [1,5] (fun q i wr=>q=.int .i64 k/\i=.int .i64 0/\wr=w) (fun _ _ _=>0)
 case atStart=>exact⟨rfl,rfl,rfl⟩
 case round=>
  obtain⟨rfl,rfl,rfl⟩:=hrel;go_wp2;go_ret
  exact⟨rfl,rfl⟩
theorem heldFrameS_nil(k:Int)(w:World):Calls Tryz.prog 38 #[.slice none 0 0,.int .i64 k] w fun e w'=>e=.returned (.int .i64 k)/\w'=w:=by
 go_enter Tryz.func38,Tryz.ntmps38
 go_wp2;go_loopw [1,5] (fun q i wr=>q=.int .i64 k/\i=.int .i64 0/\wr=w) (fun _ _ _=>0)
 case atStart=>exact⟨rfl,rfl,rfl⟩
 case round=>
  obtain⟨rfl,rfl,rfl⟩:=hrel;go_wp2;go_ret
  exact⟨rfl,rfl⟩
theorem heldRecS_nil(k:Int)(w:World):Calls Tryz.prog 39 #[.slice none 0 0,.int .i64 k] w fun e w'=>e=.returned (.int .i64 k)/\w'=w:=by
 go_enter Tryz.func39,Tryz.ntmps39
 go_wp2;go_loopw [1,5] (fun q i wr=>q=.int .i64 k/\i=.int .i64 0/\wr=w) (fun _ _ _=>0)
 case atStart=>exact⟨rfl,rfl,rfl⟩
 case round=>
  obtain⟨rfl,rfl,rfl⟩:=hrel;go_wp2;go_ret
  exact⟨rfl,rfl⟩
theorem FMk.mono{w w':World}{F k0 m:Nat}{la sa:Nat->Nat}{fr:List Fr}(h:FMk w F la sa fr k0 m)(hb:Below w.heap.size w w'):FMk w' F la sa fr k0 m:=h.kept fun _ _ _ ho=>by rw[hb.block _ (ay ho)];exact ho
theorem RMk.mono{w w':World}{ha:Option Addr}{k0 m:Nat}{rb:Nat->Nat}{rs:List (List Vl)}(h:RMk w ha rb rs k0 m)(hb:Below w.heap.size w w'):RMk w' ha rb rs k0 m:=h.kept fun _ _ _ _ ho=>by rw[hb.block _ (ay ho)];exact ho
def upTo (b:Bool)(n:Nat):Nat:=if b then n else 0
structure GYes (hi:Nat)(b1 b2:Bool)(w:World)(F:Nat)(ha:Option Addr)(la sa rb:Nat->Nat)(fr:List Fr)(rs:List (List Vl)):Prop where
 loF:hi<=F
 ap:FAp fr.length la sa
 one:∀i j,i<rs.length->j<rs.length->rb i=rb j->i=j
 loL:∀i,i<fr.length->hi<=la i/\hi<=sa i
 loR:∀i,i<rs.length->hi<=rb i
 far:∀i j,i<rs.length->j<fr.length->rb i≠la j/\rb i≠sa j
 frs:FMk w F la sa fr 1 (upTo b1 fr.length)
 recs:RMk w ha rb rs (1+fsz fr) (upTo b2 rs.length)
def GAns (hi:Nat)(b1 b2:Bool)(w:World)(vF vR:Value)(fr:List Fr)(rs:List (List Vl)):Prop:=
 (vF=.slice none 0 0/\vR=.slice none 0 0/\fr=[]/\rs=[]) \/
 ∃F ha cap la sa rb,vF=.slice (some ⟨F,0,none⟩) fr.length fr.length/\vR=.slice ha rs.length cap/\GYes hi b1 b2 w F ha la sa rb fr rs
theorem GAns.mono{hi:Nat}{b1 b2:Bool}{w w':World}{vF vR:Value}{fr:List Fr}{rs:List (List Vl)}(h:GAns hi b1 b2 w vF vR fr rs)(hb:Below w.heap.size w w'):GAns hi b1 b2 w' vF vR fr rs:=by
 rcases h with h | ⟨F,ha,cap,la,sa,rb,h1,h2,y⟩
 ·exact .inl h
 ·exact .inr ⟨F,ha,cap,la,sa,rb,h1,h2,⟨y.loF,y.ap,y.one,y.loL,y.loR,y.far,y.frs.mono hb,y.recs.mono hb⟩⟩
theorem Only.low{S:Nat->Prop}{hi:Nat}{w w':World}(h:Only S w w')(hS:∀k,S k->hi<=k)(hs:hi<=w.heap.size):Below hi w w':=h.below hi hS hs
theorem FMk.blkL{w:World}{F k0 m:Nat}{la sa:Nat->Nat}{fr:List Fr}(h:FMk w F la sa fr k0 m){j:Nat}(hj:j<fr.length):(∃c,w.heap[la j]?=some (.cells c 80 (0,0)))/\∃c,w.heap[sa j]?=some (.cells c 80 (0,0)):=by
 obtain⟨cur,h1,h2,h3⟩:=h;obtain⟨-,-,d3,d4⟩:=h3 j hj;rcases Nat.lt_or_ge j m with h | h
 ·obtain⟨-,-,⟨c,x3,-⟩,⟨c',x5,-⟩⟩:=d3 h;exact⟨⟨c,x3⟩,⟨c',x5⟩⟩
 ·obtain⟨⟨c,x3,-⟩,⟨c',x5,-⟩⟩:=d4 h;exact⟨⟨c,x3⟩,⟨c',x5⟩⟩
theorem RMk.blk{w:World}{ha:Option Addr}{k0 m:Nat}{rb:Nat->Nat}{rs:List (List Vl)}(h:RMk w ha rb rs k0 m){j:Nat}(hj:j<rs.length):∃c,w.heap[rb j]?=some (.cells c 80 (0,0)):=by
 rcases Nat.lt_or_ge j m with h2 | h2
 ·obtain⟨c,h3,-⟩:=h.done j hj h2;exact⟨c,h3⟩
 ·obtain⟨c,h3,-⟩:=h.todo j hj h2;exact⟨c,h3⟩
section
variable {hi:Nat} {w:World} {vF vR:Value} {fr:List Fr} {rs:List (List Vl)}
theorem markF_g(hn:fr.length<=1048576)(hc:∀f∈fr,f.locals.length<=1048576/\f.stack.length<=1048576)(hw:hi<=w.heap.size)(h:GAns hi false false w vF vR fr rs) :
  Calls Tryz.prog 37 #[vF,.int .i64 1] w fun e w'=>e=.returned (.int .i64 ((1+fsz fr:Nat):Int))/\GAns hi true false w' vF vR fr rs/\Below hi w w':=by
 rcases h with ⟨rfl,rfl,rfl,rfl⟩ | ⟨F,ha,cap,la,sa,rb,rfl,rfl,y⟩
 ·refine (markFrameS_nil 1 w).mono ?_;rintro e w' ⟨rfl,rfl⟩;exact⟨rfl,.inl ⟨rfl,rfl,rfl,rfl⟩,Below.refl _ _⟩
 ·have h2:=markFrameS_is (fun b=>b=F\/∃i,i<fr.length/\(b=la i\/b=sa i)) F fr.length 1 fr la sa w hn hc (by omega) y.ap (.inl rfl) (fun i hi=>⟨.inr ⟨i,hi,.inl rfl⟩,.inr ⟨i,hi,.inr rfl⟩⟩) y.frs;refine h2.mono ?_;rintro e w' ⟨rfl,hO,hF⟩;refine⟨rfl,.inr ⟨F,ha,cap,la,sa,rb,rfl,rfl,⟨y.loF,y.ap,y.one,y.loL,y.loR,y.far,hF,?_⟩⟩,hO.low (fun k hk=>?_) hw⟩
  ·refine y.recs.kept fun b c t ht ho=>hO.kept ho fun hS=>?_
   obtain⟨cF,hcF,-⟩:=y.frs;rcases ht with rfl | ⟨rfl,i,hi2,rfl⟩
   ·rcases hS with rfl | ⟨j,hj,rfl | rfl⟩
    ·rw[hcF] at ho;cases ho
    ·obtain⟨⟨c1,e1⟩,-⟩:=y.frs.blkL hj;rw[e1] at ho;cases ho
    ·obtain⟨-,⟨c1,e1⟩⟩:=y.frs.blkL hj;rw[e1] at ho;cases ho
   ·rcases hS with e1 | ⟨j,hj,e1 | e1⟩
    ·rw[e1,hcF] at ho;cases ho
    ·exact (y.far i j hi2 hj).1 e1
    ·exact (y.far i j hi2 hj).2 e1
  ·rcases hk with rfl | ⟨i,hi2,rfl | rfl⟩
   ·exact y.loF
   ·exact (y.loL i hi2).1
   ·exact (y.loL i hi2).2
theorem markR_g(hn:rs.length<=1048576)(hc:∀r∈rs,r.length<=1048576)(hf:fsz fr<=1000000000)(hw:hi<=w.heap.size)(h:GAns hi true false w vF vR fr rs) :
  Calls Tryz.prog 36 #[vR,.int .i64 ((1+fsz fr:Nat):Int)] w fun e w'=>e=.returned (.int .i64 ((1+fsz fr+rsz rs:Nat):Int))/\GAns hi true true w' vF vR fr rs/\Below hi w w':=by
 rcases h with ⟨rfl,rfl,rfl,rfl⟩ | ⟨F,ha,cap,la,sa,rb,rfl,rfl,y⟩
 ·refine (markRecS_nil _ w).mono ?_;rintro e w' ⟨rfl,rfl⟩;exact⟨rfl,.inl ⟨rfl,rfl,rfl,rfl⟩,Below.refl _ _⟩
 ·have h2:=markRecS_is (fun b=>∃i,i<rs.length/\b=rb i) ha cap (1+fsz fr) rs rb w hn hc (by omega) y.one (fun i hi=>⟨i,hi,rfl⟩) y.recs;refine h2.mono ?_;rintro e w' ⟨rfl,hO,hR⟩;refine⟨rfl,.inr ⟨F,ha,cap,la,sa,rb,rfl,rfl,⟨y.loF,y.ap,y.one,y.loL,y.loR,y.far,?_,hR⟩⟩,hO.low (fun k hk=>?_) hw⟩
  ·refine y.frs.kept fun b o hb ho=>hO.kept ho fun hS=>?_
   obtain⟨i,hi2,rfl⟩:=hS;rcases hb with e1 | ⟨j,hj,e1 | e1⟩
   ·obtain⟨cF,hcF,-⟩:=y.frs;obtain⟨c1,h9⟩:=y.recs.blk hi2;rw[e1,hcF] at h9;cases h9
   ·exact (y.far i j hi2 hj).1 e1
   ·exact (y.far i j hi2 hj).2 e1
  ·obtain⟨i,hi2,rfl⟩:=hk;exact y.loR i hi2
theorem heldF_g(hn:fr.length<=1048576)(hc:∀f∈fr,f.locals.length<=1048576/\f.stack.length<=1048576)(h:GAns hi true true w vF vR fr rs) :
  Calls Tryz.prog 38 #[vF,.int .i64 1] w fun e w'=>e=.returned (.int .i64 ((1+fsz fr:Nat):Int))/\Below w.heap.size w w':=by
 rcases h with ⟨rfl,rfl,rfl,rfl⟩ | ⟨F,ha,cap,la,sa,rb,rfl,rfl,y⟩
 ·refine (heldFrameS_nil 1 w).mono ?_;rintro e w' ⟨rfl,rfl⟩;exact⟨rfl,Below.refl _ _⟩
 ·exact heldFrameS_is F fr.length 1 fr la sa w hn hc (by omega) (by omega) y.frs
theorem heldR_g(hn:rs.length<=1048576)(hc:∀r∈rs,r.length<=1048576)(hf:fsz fr<=1000000000)(h:GAns hi true true w vF vR fr rs) :
  Calls Tryz.prog 39 #[vR,.int .i64 ((1+fsz fr:Nat):Int)] w fun e w'=>e=.returned (.int .i64 ((1+fsz fr+rsz rs:Nat):Int))/\Below w.heap.size w w':=by
 rcases h with ⟨rfl,rfl,rfl,rfl⟩ | ⟨F,ha,cap,la,sa,rb,rfl,rfl,y⟩
 ·refine (heldRecS_nil _ w).mono ?_;rintro e w' ⟨rfl,rfl⟩;exact⟨rfl,Below.refl _ _⟩
 ·exact heldRecS_is ha cap (1+fsz fr) rs rb w hn hc (by omega) (by omega) y.recs
end
theorem dn(vals:List Vl)(nums:List Int)(first:Nat):∀(l:List EF) (met:List Int) (j:Nat) (h:j<l.length),(bx vals nums first met l)[j]'(by rw[bU];exact h)=gC vals nums first (metFs met (l.take j)) l[j]
 | s :: l,met,0,_=>by simp[bx,metFs]
 | s :: l,met,j+1,h=>by
  have:=dn vals nums first l (metF met s) j (by simpa using h)
  simp only[bx,List.getElem_cons_succ,List.take_succ_cons,metFs,List.foldl_cons]
  exact this
def fH (ts:List ByteArray)(fs:List Fn)(D:aR)(x:Int)(vals:List Vl)(nums:List Int)(hs:List (List Vl))(fr:List Fr)(rs:List (List Vl)):Prop:=
 (∃(k:Nat) (h:k<D.exits.length) (J:Nat),x=k/\cL ts fs D x vals nums hs/\Built vals nums hs.length D.exits[k].recs (metFs [] D.exits[k].frames) J/\hs.length+J<=120/\fr=bx vals nums hs.length [] D.exits[k].frames/\rs=hs++(aS vals nums hs.length D.exits[k].recs (metFs [] D.exits[k].frames) J).2) \/
 (fr=[]/\rs=[]/\(¬cL ts fs D x vals nums hs\/∃(k:Nat) (h:k<D.exits.length) (J:Nat),x=k/\Built vals nums hs.length D.exits[k].recs (metFs [] D.exits[k].frames) J/\120<hs.length+J))
section
variable {ts:List ByteArray} {fs:List Fn} {D:aR} {x:Int} {vals:List Vl} {nums:List Int} {hs:List (List Vl)}
theorem fH.one{fr fr':List Fr}{rs rs':List (List Vl)}(h:fH ts fs D x vals nums hs fr rs)(h':fH ts fs D x vals nums hs fr' rs'):fr=fr'/\rs=rs':=by
 rcases h with ⟨k,hk,J,e,ok,b,le,rfl,rfl⟩ | ⟨rfl,rfl,h⟩<;>rcases h' with ⟨k',hk',J',e',ok',b',le',rfl,rfl⟩ | ⟨rfl,rfl,h'⟩
 ·have:k=k':=by omega
  subst this;have:=b.one b';subst this;exact⟨rfl,rfl⟩
 ·rcases h' with h' | ⟨k',hk',J',e',b',lt⟩
  ·exact absurd ok h'
  ·have:k=k':=by omega
   subst this;have:=b.one b';omega
 ·rcases h with h | ⟨k,hk,J,e,b,lt⟩
  ·exact absurd ok' h
  ·have:k=k':=by omega
   subst this;have:=b.one b';omega
 ·exact⟨rfl,rfl⟩
theorem fH.small(hd:a8 D){fr:List Fr}{rs:List (List Vl)}(h:fH ts fs D x vals nums hs fr rs)(hv:aE vals)(hh:∀r∈hs,aE r):fr.length<=4/\rs.length<=120/\(∀f∈fr,aE f.locals)/\(∀f∈fr,aE f.stack)/\(∀r∈rs,aE r):=by
 rcases h with ⟨k,hk,J,e,ok,b,le,rfl,rfl⟩ | ⟨rfl,rfl,-⟩
 ·subst e;have fit:=ok.fits hd hk;have wl:∀(l:List Sr) (ms:List Int),l.length<=1048576->(∀s∈l,SrOk vals.length nums.length D.exits[k].recs.length s)->aE (bu vals nums hs.length ms l):=fun l ms hl hs'=>by
   refine⟨by rw[bN];exact hl,fun v hv'=>?_⟩;obtain⟨j,hj,rfl⟩:=List.getElem_of_mem hv';have hj':j<l.length:=by rw[bN] at hj;exact hj
   rw[eK vals nums hs.length l ms j hj'];have hso:=hs' l[j] (g_m hj');unfold bJ;split
   ·rename_i h2
    have:=hso.fits.1 h2;rw[List.getD_eq_getElem?_getD,List.getElem?_eq_getElem (show l[j].n.toNat<vals.length by omega)]
    exact hv.2 _ (g_m _)
   ·split
    ·show (0:Nat)<=_
     omega
    ·split
     ·show (0:Nat)<=_
      omega
     ·exact hso.fits.2.2
  have lenR:=da vals nums hs.length D.exits[k].recs (metFs [] D.exits[k].frames) J;refine⟨by rw[bU];exact fit.fn,by rw[List.length_append,lenR];exact le,fun f hf=>?_,fun f hf=>?_,fun r hr=>?_⟩
  ·obtain⟨j,hj,rfl⟩:=List.getElem_of_mem hf;have hj':j<D.exits[k].frames.length:=by rw[bU] at hj;exact hj
   rw[dn vals nums hs.length _ [] j hj'];exact wl _ _ (fit.fl _ (g_m hj')).1 (fit.f1 _ (g_m hj'))
  ·obtain⟨j,hj,rfl⟩:=List.getElem_of_mem hf;have hj':j<D.exits[k].frames.length:=by rw[bU] at hj;exact hj
   rw[dn vals nums hs.length _ [] j hj'];exact wl _ _ (fit.fl _ (g_m hj')).2 (fit.f2 _ (g_m hj'))
  ·rcases List.mem_append.1 hr with hr | hr
   ·exact hh r hr
   ·have key:∀i,∀r∈(aS vals nums hs.length D.exits[k].recs (metFs [] D.exits[k].frames) i).2,aE r:=fun i=>by
     induction i with
     | zero=>intro r hr;simp[aS] at hr
     | succ i ih=>
      intro r hr;simp only[aS] at hr
      rcases List.mem_append.1 hr with hr | hr
      ·exact ih r hr
      ·rw[List.mem_singleton] at hr;subst hr;unfold dp;rw[List.getD_eq_getElem?_getD];generalize ((aS vals nums hs.length D.exits[k].recs (metFs [] D.exits[k].frames) i).1.getD i 0).toNat=n
       by_cases hn:n<D.exits[k].recs.length
       ·rw[List.getElem?_eq_getElem hn];exact wl _ _ (by have:=fit.rl _ (g_m hn);simp only[Option.getD_some];omega) (fit.rs _ (g_m hn))
       ·rw[List.getElem?_eq_none (by omega)];exact wl _ _ (by simp) (fun s hs=>by simp at hs)
    exact key J r hr
 ·exact⟨by simp,by simp,fun f hf=>by simp at hf,fun f hf=>by simp at hf,fun f hf=>by simp at hf⟩
end
structure GB (hi:Nat)(w:World)(F mid:Nat)(curF:Array Value)(q:Value)(bs:List Nat)(fr:List Fr)(rs:List (List Vl)):Prop where
 lo:hi<=F
 fm:F<mid
 blk:w.heap[F]?=some (.cells curF 136 (0,0))
 size:curF.size=fr.length*4
 each:∀j (h:j<fr.length),∃g1 g2,hi<=g1/\hi<=g2/\curF[j*4]?=some (.int .i64 fr[j].fn)/\curF[j*4+1]?=some (.int .i64 fr[j].pc)/\curF[j*4+2]?=some (.slice (some ⟨g1,0,none⟩) fr[j].locals.length fr[j].locals.length)/\curF[j*4+3]?=some (.slice (some ⟨g2,0,none⟩) fr[j].stack.length fr[j].stack.length)/\BlkV w g1 fr[j].locals/\BlkV w g2 fr[j].stack
 ap:ApC mid (fr.length*4) curF
 row:RowO w mid q bs rs
theorem RbYes.gb{vals:List Vl}{nums:List Int}{x:Ex}{hs:List (List Vl)}{J:Nat}{w w':World}{F mid:Nat}{curF:Array Value}{q:Value}{bs:List Nat}(h:RbYes vals nums x hs J w w' F mid curF q bs):GB w.heap.size w' F mid curF q bs (bx vals nums hs.length [] x.frames) (hs++(aS vals nums hs.length x.recs (metFs [] x.frames) J).2):=by
 refine⟨h.lo,h.fm,h.blk,by rw[bU];exact h.size,fun j hj=>?_,by rw[bU];exact h.ap,h.row⟩;have hj':j<x.frames.length:=by rw[bU] at hj;exact hj
 obtain⟨g1,g2,l1,l2,a0,a1,a2,a3,⟨c1,b1,r1,z1⟩,⟨c2,b2,r2,z2⟩⟩:=h.each j hj';rw[dn vals nums hs.length x.frames [] j hj'];exact⟨g1,g2,l1,l2,a0,a1,by show _=some (Value.slice _ (bu _ _ _ _ _).length (bu _ _ _ _ _).length);rw[bN];exact a2,by show _=some (Value.slice _ (bu _ _ _ _ _).length (bu _ _ _ _ _).length);rw[bN];exact a3,RowV.blk b1 r1 z1,RowV.blk b2 r2 z2⟩
section
variable {hi:Nat} {w w':World} {F mid:Nat} {curF:Array Value} {q:Value} {bs:List Nat} {fr:List Fr} {rs:List (List Vl)}
theorem GB.kept(h:GB hi w F mid curF q bs fr rs)(hk:∀(b:Nat) (c:Array Value) (t:TypeId),t=136\/t=125\/t=80->hi<=b->w.heap[b]?=some (.cells c t (0,0))->w'.heap[b]?=some (.cells c t (0,0))):GB hi w' F mid curF q bs fr rs:=by
 have hm:hi<=mid:=by have:=h.lo;have:=h.fm;omega
 refine⟨h.lo,h.fm,hk _ _ _ (.inl rfl) h.lo h.blk,h.size,fun j hj=>?_,h.ap,?_⟩
 ·obtain⟨g1,g2,l1,l2,a0,a1,a2,a3,b1,b2⟩:=h.each j hj;exact⟨g1,g2,l1,l2,a0,a1,a2,a3,b1.keep (fun c hc=>hk _ _ _ (.inr (.inr rfl)) l1 hc),b2.keep (fun c hc=>hk _ _ _ (.inr (.inr rfl)) l2 hc)⟩
 ·have r:=h.row;refine⟨r.len,⟨r.own.1,?_⟩,r.one,r.low,fun j hj hj2=>(r.blk j hj hj2).keep (fun c hc=>hk _ _ _ (.inr (.inr rfl)) (by have:=r.low _ (g_m hj);omega) hc)⟩;rcases r.own.2 with q | ⟨g,cap,cur,e,hg,hh,rr⟩
  ·exact .inl q
  ·exact .inr ⟨g,cap,cur,e,hg,hk _ _ _ (.inr (.inl rfl)) (by omega) hh,rr⟩
theorem GB.frs(h:GB hi w F mid curF q bs fr rs):fJ w 0 (some ⟨F,0,none⟩) fr:=fun j hj=>by
 obtain⟨g1,g2,l1,l2,a0,a1,a2,a3,b1,b2⟩:=h.each j hj;have K:∀i v',curF[i]?=some v'->w.cell? ⟨F,0+i,none⟩=some v':=fun i v' hi=>by rw[ae h.blk,Nat.zero_add];exact hi
 exact⟨F,0,_,_,_,_,rfl,Nat.zero_le _,K _ _ a0,K _ _ a1,K _ _ a2,K _ _ a3,b1.at (Nat.zero_le _),b2.at (Nat.zero_le _)⟩
theorem GB.recs(h:GB hi w F mid curF q bs fr rs):∃a cap,q=.slice a rs.length cap/\bT w 0 a rs:=by
 have r:=h.row;rcases r.own.2 with ⟨e,h0⟩ | ⟨g,cap,cur,e,hg,hh,-,-,-,htk⟩
 ·exact⟨none,0,by rw[e,h0],fun j hj=>by omega⟩
 ·refine⟨_,cap,e,fun j hj=>?_⟩;have hj2:j<bs.length:=by rw[r.len];exact hj
  refine⟨g,0,some ⟨bs[j],0,none⟩,rs[j].length,rfl,Nat.zero_le _,?_,(r.blk j hj2 hj).at (Nat.zero_le _)⟩;have e2:=congrArg (fun l=>l[j]?) htk;simp only[List.getElem?_take,Nat.mul_one] at e2
  rw[if_pos hj,Array.getElem?_toList,List.getElem?_zipWith,List.getElem?_eq_getElem hj2,List.getElem?_eq_getElem hj] at e2;rw[ae hh,Nat.zero_add];exact e2
theorem GB.ans(h:GB hi w F mid curF q bs fr rs):GAns hi false false w (.slice (some ⟨F,0,none⟩) fr.length fr.length) q fr rs:=by
 have hm:hi<=mid:=by have:=h.lo;have:=h.fm;omega
 have r:=h.row;obtain⟨a,cap,hq,-⟩:=h.recs;have L:∀j (hj:j<fr.length),∃g1 g2,blkOf curF[j*4+2]?=g1/\blkOf curF[j*4+3]?=g2/\hi<=g1/\hi<=g2/\g1<mid/\g2<mid/\curF[j*4+2]?=some (.slice (some ⟨g1,0,none⟩) fr[j].locals.length fr[j].locals.length)/\curF[j*4+3]?=some (.slice (some ⟨g2,0,none⟩) fr[j].stack.length fr[j].stack.length)/\BlkV w g1 fr[j].locals/\BlkV w g2 fr[j].stack:=fun j hj=>by
  obtain⟨g1,g2,l1,l2,a0,a1,a2,a3,b1,b2⟩:=h.each j hj;exact⟨g1,g2,by rw[a2];rfl,by rw[a3];rfl,l1,l2,h.ap.low _ _ _ _ (by omega) a2,h.ap.low _ _ _ _ (by omega) a3,a2,a3,b1,b2⟩
 have RB':∀i (hi2:i<rs.length),∃h2:i<bs.length,bs.getD i 0=bs[i]:=fun i hi2=>by
  have h2:i<bs.length:=by rw[r.len];exact hi2
  exact⟨h2,by rw[List.getD_eq_getElem?_getD,List.getElem?_eq_getElem h2];rfl⟩
 have vb:∀{g:Nat} {vs:List Vl},BlkV w g vs->a7 w g vs.length:=fun hb=>by
  obtain⟨c,h1,h2,-⟩:=hb;exact⟨c,h1,h2⟩
 refine .inr ⟨F,a,cap,fun j=>blkOf curF[j*4+2]?,fun j=>blkOf curF[j*4+3]?,fun j=>bs.getD j 0,rfl,hq,⟨h.lo,⟨fun i j hi2 hj e=>?_,fun i j hi2 hj e=>?_,fun i j hi2 hj e=>?_⟩,fun i j hi2 hj e=>?_,fun i hi2=>?_,fun i hi2=>?_,fun i j hi2 hj=>?_,?_,?_⟩⟩
 ·obtain⟨g1,g2,e1,e2,-,-,-,-,a2,a3,-,-⟩:=L i hi2;obtain⟨g1',g2',e1',e2',-,-,-,-,a2',a3',-,-⟩:=L j hj
  have:g1=g1':=by rw[<-e1,<-e1'];exact e
  subst this;have:=h.ap.one _ _ _ _ _ _ _ (by omega) (by omega) a2 a2';omega
 ·obtain⟨g1,g2,e1,e2,-,-,-,-,a2,a3,-,-⟩:=L i hi2;obtain⟨g1',g2',e1',e2',-,-,-,-,a2',a3',-,-⟩:=L j hj
  have:g2=g2':=by rw[<-e2,<-e2'];exact e
  subst this;have:=h.ap.one _ _ _ _ _ _ _ (by omega) (by omega) a3 a3';omega
 ·obtain⟨g1,g2,e1,e2,-,-,-,-,a2,a3,-,-⟩:=L i hi2;obtain⟨g1',g2',e1',e2',-,-,-,-,a2',a3',-,-⟩:=L j hj
  have:g1=g2':=by rw[<-e1,<-e2'];exact e
  subst this;have:=h.ap.one _ _ _ _ _ _ _ (by omega) (by omega) a2 a3';omega
 ·obtain⟨h1,e1⟩:=RB' i hi2;obtain⟨h2,e2⟩:=RB' j hj;exact r.one i j h1 h2 (by rw[<-e1,<-e2];exact e)
 ·obtain⟨g1,g2,e1,e2,l1,l2,-⟩:=L i hi2;exact⟨by rw[e1];exact l1,by rw[e2];exact l2⟩
 ·obtain⟨h1,e1⟩:=RB' i hi2;show hi<=bs.getD i 0
  rw[e1];have:=r.low _ (g_m h1);omega
 ·obtain⟨h1,e1⟩:=RB' i hi2;obtain⟨g1,g2,e2,e3,-,-,m1,m2,-⟩:=L j hj;have:=r.low _ (g_m h1);show bs.getD i 0≠blkOf curF[j*4+2]?/\bs.getD i 0≠blkOf curF[j*4+3]?
  rw[e1,e2,e3];omega
 ·refine⟨curF,h.blk,h.size,fun j hj=>?_⟩;obtain⟨g1,g2,e1,e2,-,-,-,-,a2,a3,b1,b2⟩:=L j hj;refine⟨by show _=some (Value.slice (some ⟨blkOf curF[j*4+2]?,0,none⟩) _ _);rw[e1];exact a2,by show _=some (Value.slice (some ⟨blkOf curF[j*4+3]?,0,none⟩) _ _);rw[e2];exact a3,fun q=>by simp[upTo] at q,fun _=>?_⟩
  show a7 w (blkOf curF[j*4+2]?) _/\a7 w (blkOf curF[j*4+3]?) _
  rw[e1,e2];exact⟨vb b1,vb b2⟩
 ·refine⟨fun j hj=>?_,fun j hj q=>by simp[upTo] at q,fun j hj _=>?_⟩
  ·obtain⟨h1,e1⟩:=RB' j hj;rcases r.own.2 with ⟨e,h0⟩ | ⟨g,cap',cur,e,hg,hh,-,-,-,htk⟩
   ·omega
   ·rw[hq] at e
    cases e;refine⟨g,cur,rfl,hh,?_⟩;have e2:=congrArg (fun l=>l[j]?) htk;simp only[List.getElem?_take,Nat.mul_one] at e2
    rw[if_pos hj,Array.getElem?_toList,List.getElem?_zipWith,List.getElem?_eq_getElem h1,List.getElem?_eq_getElem hj] at e2;rw[e1];exact e2
  ·obtain⟨h1,e1⟩:=RB' j hj;show a7 w (bs.getD j 0) _
   rw[e1];exact vb (r.blk j h1 hj)
end
def GAll (hi:Nat)(w:World)(vF vR:Value)(fr:List Fr)(rs:List (List Vl)):Prop:=
 (vF=.slice none 0 0/\vR=.slice none 0 0/\fr=[]/\rs=[])\/∃F mid curF bs,vF=.slice (some ⟨F,0,none⟩) fr.length fr.length/\GB hi w F mid curF vR bs fr rs
section
variable {hi:Nat} {w w':World} {vF vR:Value} {fr:List Fr} {rs:List (List Vl)}
theorem GAll.kept(h:GAll hi w vF vR fr rs)(hk:∀(b:Nat) (c:Array Value) (t:TypeId),t=136\/t=125\/t=80->hi<=b->w.heap[b]?=some (.cells c t (0,0))->w'.heap[b]?=some (.cells c t (0,0))):GAll hi w' vF vR fr rs:=by
 rcases h with h | ⟨F,mid,curF,bs,e,g⟩
 ·exact .inl h
 ·exact .inr ⟨F,mid,curF,bs,e,g.kept hk⟩
theorem GAll.mono(h:GAll hi w vF vR fr rs)(hb:Below w.heap.size w w'):GAll hi w' vF vR fr rs:=h.kept fun _ _ _ _ _ ho=>ah ho hb
theorem GAll.keeps{lo:Nat}{ts:List Nat}(h:GAll hi w vF vR fr rs)(hk:aT lo ts w w')(ht:136∉ts/\125∉ts/\80∉ts):GAll hi w' vF vR fr rs:=h.kept fun _ _ _ q _ ho=>hk.cell ho (by rcases q with rfl | rfl | rfl<;>first | exact ht.1 | exact ht.2.1 | exact ht.2.2)
theorem GAll.only{lo:Nat}(h:GAll hi w vF vR fr rs)(hk:Only (Rng lo hi) w w'):GAll hi w' vF vR fr rs:=h.kept fun _ _ _ _ hb ho=>hk.kept ho (fun q=>by have:=q.2;omega)
theorem GAll.frs(h:GAll hi w vF vR fr rs):∃a cap,vF=.slice a fr.length cap/\fJ w 0 a fr:=by
 rcases h with ⟨rfl,rfl,rfl,rfl⟩ | ⟨F,mid,curF,bs,e,g⟩
 ·exact⟨none,0,rfl,fun j hj=>by simp at hj⟩
 ·exact⟨_,_,e,g.frs⟩
theorem GAll.recs(h:GAll hi w vF vR fr rs):∃a cap,vR=.slice a rs.length cap/\bT w 0 a rs:=by
 rcases h with ⟨rfl,rfl,rfl,rfl⟩ | ⟨F,mid,curF,bs,e,g⟩
 ·exact⟨none,0,rfl,fun j hj=>by simp at hj⟩
 ·exact g.recs
theorem GAll.ans(h:GAll hi w vF vR fr rs):GAns hi false false w vF vR fr rs:=by
 rcases h with h | ⟨F,mid,curF,bs,e,g⟩
 ·exact .inl h
 ·rw[e];exact g.ans
end
section
variable {ts:List ByteArray} {fs:List Fn} {D:aR} {x:Int} {vals:List Vl} {nums:List Int} {hs:List (List Vl)} {w w':World} {e:Ending}
theorem gN.res(h:gN ts fs D x vals nums hs w e w'):∃vF vR fr rs,e=.returned (.tuple #[vF,vR])/\fH ts fs D x vals nums hs fr rs/\GAll w.heap.size w' vF vR fr rs:=by
 rcases h with ⟨k,hk,rfl,ok,J,hJ,⟨h1,F,mid,curF,q,bs,rfl,y⟩ | ⟨h1,rfl⟩⟩ | ⟨hno,rfl⟩
 ·exact⟨_,_,_,_,rfl,.inl ⟨k,hk,J,rfl,ok,hJ,h1,rfl,rfl⟩,.inr ⟨F,mid,curF,bs,by rw[bU],y.gb⟩⟩
 ·exact⟨_,_,[],[],rfl,.inr ⟨rfl,rfl,.inr ⟨k,hk,J,rfl,hJ,h1⟩⟩,.inl ⟨rfl,rfl,rfl,rfl⟩⟩
 ·exact⟨_,_,[],[],rfl,.inr ⟨rfl,rfl,.inl hno⟩,.inl ⟨rfl,rfl,rfl,rfl⟩⟩
theorem gR.res(h:gR ts fs D x vals nums hs w e w'):∃a c a' c' fr rs,e=.returned (.tuple #[.slice a fr.length c,.slice a' rs.length c'])/\fH ts fs D x vals nums hs fr rs/\fJ w' 0 a fr/\bT w' 0 a' rs:=by
 rcases h with ⟨k,hk,rfl,ok,J,q1,q2,xs,ys,rfl,hJ,⟨h1,h2,h3,h4,h5⟩ | ⟨h1,h2,h3⟩⟩ | ⟨hno,q1,q2,rfl,h2,h3⟩
 ·have h2':w'.ownsRow w.heap.size 136 4 q1 (bx vals nums hs.length [] D.exits[k].frames).length xs:=by rw[bU];exact h2
  have h4':w'.ownsRow w.heap.size 125 1 q2 (hs++(aS vals nums hs.length D.exits[k].recs (metFs [] D.exits[k].frames) J).2).length ys:=by rw[List.length_append,da];exact h4
  obtain⟨a,c,rfl,k1⟩:=(h3.low (Nat.zero_le _)).at (b9 h2' (Nat.zero_le _));obtain⟨a',c',rfl,k2⟩:=(h5.low (Nat.zero_le _)).at (b9 h4' (Nat.zero_le _));exact⟨a,c,a',c',_,_,rfl,.inl ⟨k,hk,J,rfl,ok,hJ,h1,rfl,rfl⟩,k1,k2⟩
 ·obtain⟨a,c,rfl⟩:=di h2;obtain⟨a',c',rfl⟩:=di h3;exact⟨a,c,a',c',[],[],rfl,.inr ⟨rfl,rfl,.inr ⟨k,hk,J,rfl,hJ,h1⟩⟩,fun j hj=>by simp at hj,fun j hj=>by simp at hj⟩
 ·obtain⟨a,c,rfl⟩:=di h2;obtain⟨a',c',rfl⟩:=di h3;exact⟨a,c,a',c',[],[],rfl,.inr ⟨rfl,rfl,.inl hno⟩,fun j hj=>by simp at hj,fun j hj=>by simp at hj⟩
end
theorem hid{p:Prop}(h:p):Hid p:=h
theorem FoB.mono{w w':World}{lo g:Nat}{xs:List Fo}(h:FoB w lo g xs)(hb:Below w.heap.size w w'):FoB w' lo g xs:=h.keep (bX.below hb)
theorem ExB.mono{w w':World}{lo g:Nat}{xs:List Ex}(h:ExB w lo g xs)(hb:Below w.heap.size w w'):ExB w' lo g xs:=h.keep (bX.below hb)
theorem toFast_c(oa ea:Option Addr)(oc ec:Nat)(d:aR)(w:World)(hx:a8 d)(hm:br w 0 oa ea d) :
  Calls Tryz.prog 11 #[.agg (aK oa ea oc ec d)] w fun e w'=>∃g g2,e=.returned (.agg (aK (some ⟨g,0,none⟩) (some ⟨g2,0,none⟩) d.ops.length d.exits.length d))/\br w' w.heap.size (some ⟨g,0,none⟩) (some ⟨g2,0,none⟩) d/\Below w.heap.size w w':=
 (toFast_b oa ea oc ec d w hx hm).mono fun _ _ ⟨g,g2,h1,h2,_,_,h5⟩=>⟨g,g2,h1,h2,h5⟩
theorem a7.below{w w':World}{g n:Nat}(h:a7 w g n)(hb:Below w.heap.size w w'):a7 w' g n:=by
 obtain⟨c,h1,h2⟩:=h;exact⟨c,ah h1 hb,h2⟩
theorem a7.keeps{w w':World}{g n lo:Nat}{ts:List Nat}(h:a7 w g n)(hk:aT lo ts w w')(ht:80∉ts):a7 w' g n:=by
 obtain⟨c,h1,h2⟩:=h;exact⟨c,hk.cell h1 ht,h2⟩
theorem eu.keeps{w w':World}{g n lo:Nat}{ts:List Nat}(h:eu w g n)(hk:aT lo ts w w')(ht:3∉ts):eu w' g n:=by
 obtain⟨c,h1,h2⟩:=h;exact⟨c,hk.cell h1 ht,h2⟩
theorem RSh.mono{w w':World}{lo hi R:Nat}{rs:List (List Vl)}(h:RSh w lo hi R rs)(hb:Below w.heap.size w w'):RSh w' lo hi R rs:=by
 obtain⟨cur,h1,h2,h3⟩:=h;refine⟨cur,ah h1 hb,h2,fun j hj=>?_⟩;obtain⟨g,d1,d2,d3⟩:=h3 j hj;exact⟨g,d1,d2,d3.below hb⟩
theorem RSh.keeps{w w':World}{lo hi R lo':Nat}{rs:List (List Vl)}{ts:List Nat}(h:RSh w lo hi R rs)(hk:aT lo' ts w w')(ht:125∉ts/\80∉ts):RSh w' lo hi R rs:=by
 obtain⟨cur,h1,h2,h3⟩:=h;refine⟨cur,hk.cell h1 ht.1,h2,fun j hj=>?_⟩;obtain⟨g,d1,d2,d3⟩:=h3 j hj;exact⟨g,d1,d2,d3.keeps hk ht.2⟩
theorem RB.at{w:World}{lo:Nat}{a:Option Addr}{rs:List (List Vl)}(h:RB w lo a rs):bT w lo a rs:=fun j hj=>by
 obtain⟨R,cur,e,hl,h1,-,h3⟩:=h;obtain⟨g,d1,d2⟩:=h3 j hj;exact⟨R,0,_,_,e,hl,by rw[ae h1,Nat.zero_add];exact d1,d2.1⟩
def VBk (w:World)(g n:Nat):Prop:=a7 w g n
theorem VBk.mono{w w':World}{g n:Nat}(h:VBk w g n)(hb:Below w.heap.size w w'):VBk w' g n:=a7.below h hb
theorem VBk.keeps{w w':World}{g n lo:Nat}{ts:List Nat}(h:VBk w g n)(hk:aT lo ts w w')(ht:80∉ts):VBk w' g n:=a7.keeps h hk ht
theorem lt_vb{w:World}{g n:Nat}(h:VBk w g n):g<w.heap.size:=by
 obtain⟨c,h1,-⟩:=h;exact ay h1
theorem GAll.frs'{hi:Nat}{w:World}{ga:Option Addr}{n gc:Nat}{vR:Value}{fr:List Fr}{rs:List (List Vl)}(h:GAll hi w (.slice ga n gc) vR fr rs):fJ w 0 ga fr:=by
 obtain⟨a,c,e,h1⟩:=h.frs
 cases e;exact h1
theorem GAll.recs'{hi:Nat}{w:World}{ga:Option Addr}{n gc:Nat}{vF:Value}{fr:List Fr}{rs:List (List Vl)}(h:GAll hi w vF (.slice ga n gc) fr rs):bT w 0 ga rs:=by
 obtain⟨a,c,e,h1⟩:=h.recs
 cases e;exact h1
theorem fsz_small{fr:List Fr}(hn:fr.length<=4)(hc:∀f∈fr,f.locals.length<=1048576/\f.stack.length<=1048576):fsz fr<=1000000000:=by
 have:=gV hc fr.length n_l;rw[List.take_length] at this;omega
theorem rsz_small{rs:List (List Vl)}(hn:rs.length<=120)(hc:∀r∈rs,r.length<=1048576):rsz rs<=1000000000:=by
 have:=gY hc rs.length n_l;rw[List.take_length] at this;omega
theorem lawRebuild(SF:SFast)(a1 a2 oa ea va na ha:Option Addr)(ts:List ByteArray)(fs:List Fn)(D:aR)(x:Int)(vals:List Vl)(nums:List Int)(hs:List (List Vl))(c1 c2 oc ec vc nc hcp:Nat)(w:World)(hn:ts.length<=maxLen)(hcc:∀s∈ts,s.size<=maxLen)(hst0:bc w 0 a1 ts)
  (hn2:fs.length<=maxLen)(hc2:∀f∈fs,f.code.length<=maxLen)(hfn0:FnsAt w 0 a2 fs)(hfm:go D)(hf0:br w 0 oa ea D)(hvm:cW vals)(hva0:aQ w 0 va vals)(_hnm:nums.length<=maxLen)(hna0:a9 w 0 na nums)(hhm:hs.length<=maxLen)(hhc:∀r∈hs,cW r)(hH0:bT w 0 ha hs)(hsh:ShAt w)(hDB:DB w) :
  Calls Tryz.prog 5 #[.agg #[.slice a1 ts.length c1,.slice a2 fs.length c2],.agg (aK oa ea oc ec D),.int .i64 x,.slice va vals.length vc,.slice na nums.length nc,.slice ha hs.length hcp] w fun e w'=>e=.returned (.bool true)/\Below w.heap.size w w':=by
 have hszF:=fun (l:Int) (w:World) (h0:0<=l) (h1:l<=1048576) (h:br w 0 oa ea D)=>szFast_m oa ea oc ec D l w h0 h1 hfm h
 have htoF:=fun (w:World) (hx:a8 D) (h:br w 0 oa ea D)=>toFast_c oa ea oc ec D w hx h
 have htoB:=fun (w:World) (hx:a8 D) (h:br w 0 oa ea D)=>toFast_b oa ea oc ec D w hx h
 have heqF:=fun (q1 q2 q3 q4:Option Addr) (n1 n2 n3 n4:Nat) (w:World) (hx:a8 D) (h:br w 0 q1 q2 D) (h2:br w 0 q3 q4 D)=>eqFast_any q1 q2 q3 q4 n1 n2 n3 n4 D w hx h h2
 have hmkF:=fun (lo g g2 n1 n2 k0:Nat) (w:World) (hx:a8 D)=>markFast_m lo g g2 n1 n2 k0 D w hx
 have hspc:=fun (q1 q2 q3 q4 q5 q6 q7:Option Addr) (n1 n2 n3 n4 n5 n6 n7:Nat) (w:World) (h1:dm ts fs) (h2:a8 D) (k1:bc w 0 q1 ts) (k2:FnsAt w 0 q2 fs) (k3:br w 0 q3 q4 D) (k4:aQ w 0 q5 vals) (k5:a9 w 0 q6 nums) (k6:RB w 0 q7 hs) (h3:aE vals) (h4:nums.length<=1048576) (h5:hs.length<=1048576) (h6:∀r∈hs,aE r)=>(sRebuild_any SF q1 q2 q3 q4 q5 q6 q7 n1 n2 n3 n4 n5 n6 n7 ts fs D x vals nums hs w h1 h2 k1 k2 k3 k4 k5 k6 h3 h4 h5 h6).mono (fun _ _ q=>And.intro q.1.res q.2)
 have himp:=fun (q1 q2 q3 q4 q5 q6 q7:Option Addr) (n1 n2 n3 n4 n5 n6 n7:Nat) (w:World) (h1:dm ts fs) (h2:a8 D) (k1:bc w 0 q1 ts) (k2:FnsAt w 0 q2 fs) (k3:br w 0 q3 q4 D) (k7:ShAt w) (k8:DB w) (k4:aQ w 0 q5 vals) (k5:a9 w 0 q6 nums) (k6:bT w 0 q7 hs) (h3:aE vals) (h4:nums.length<=1048576) (h5:hs.length<=1048576) (h6:∀r∈hs,aE r)=>(iRebuild_any q1 q2 q3 q4 q5 q6 q7 n1 n2 n3 n4 n5 n6 n7 ts fs D x vals nums hs w h1 h2 k1 k2 k3 k7 k8 k4 k5 k6 h3 h4 h5 h6).mono (fun _ _ q=>And.intro q.1.res q.2)
 unfold aK at hszF htoF htoB heqF hmkF hspc himp ⊢;have HSZF:=hid hszF;have HTOF:=hid htoF;have HTOB:=hid htoB;have HEQF:=hid heqF;have HMKF:=hid hmkF;have HSPC:=hid hspc;have HIMP:=hid himp;clear hszF htoF htoB heqF hmkF hspc himp;obtain⟨w0,hw0⟩:∃w0,w0=(w.alloc (.cells #[.slice a1 ts.length c1,.slice a2 fs.length c2] 25)).alloc (.cells #[.int .i64 D.fn,.int .i64 D.entry,.int .i64 D.vals,.int .i64 D.nums,.slice oa D.ops.length oc,.slice ea D.exits.length ec] 29):=⟨_,rfl⟩;have hB:Below w.heap.size w w0:=by rw[hw0];exact (b_r.alloc n_l _).alloc (by simp) _
 have hM:w0.heap[w.heap.size]?=some (.cells #[.slice a1 ts.length c1,.slice a2 fs.length c2] 25 (0,0)):=by rw[hw0];exact au (al _ _ _) _
 have hF:w0.heap[w.heap.size+1]?=some (.cells #[.int .i64 D.fn,.int .i64 D.entry,.int .i64 D.vals,.int .i64 D.nums,.slice oa D.ops.length oc,.slice ea D.exits.length ec] 29 (0,0)):=by rw[hw0];exact aA _ _ _ _ (by simp)
 by_cases hnl:nums.length<=1048576
 case neg=>
  have hnI:(1048576:Int)<(nums.length:Int):=by omega
  go_enter Tryz.func5,Tryz.ntmps5
  go_upto_region 1 with fail
  rw[<-hw0];clear hw0;go_wp2;go_ret
  exact⟨rfl,hB⟩
 have hnI:¬((1048576:Int)<(nums.length:Int)):=by omega
 have z0:=ae hM;go_enter Tryz.func5,Tryz.ntmps5
 go_upto_region 1 with fail
 rw[<-hw0];clear hw0;go_wp2_with fail
 clear z0;refine (szModule_le a1 a2 ts fs c1 c2 _ hn hcc (hst0.mono hB) hn2 hc2 (hfn0.mono hB)).mono ?_;rintro e w1 ⟨l,rfl,hl,hsm,hb1⟩;replace hM:=ah hM hb1;replace hF:=ah hF hb1;replace hB:=hB.trans (hb1.mono hB.size);clear hb1 hn hcc hn2 hc2 hnI;by_cases hl0:l<0
 ·go_wp2_with fail
  go_ret
  exact⟨rfl,hB⟩
 have hsmm:=hsm (by omega);clear hsm;have z1:=ae hF;go_wp2_with fail
 clear z1;refine (HSZF.out l _ (by omega) (by omega) (hf0.mono hB)).mono ?_;rintro e w2 ⟨l2,rfl,hl2,hsm,hb2⟩;replace hM:=ah hM hb2;replace hF:=ah hF hb2;replace hB:=hB.trans (hb2.mono hB.size);clear hb2 hfm;by_cases hl1:l2<0
 ·clear hsm;go_wp2_with fail
  go_ret
  exact⟨rfl,hB⟩
 obtain⟨hd,hme⟩:=hsm (by omega);have HME:Hid (mFast D<=1048576):=by show _<=_;omega
 clear hsm HSZF hme;go_wp2_with fail
 refine (szValueS_any va vals vc l2 _ (by omega) (by omega) hvm (hva0.mono hB)).mono ?_;rintro e w2b ⟨l3,rfl,hl3,hsm,hb3⟩;replace hM:=ah hM hb3;replace hF:=ah hF hb3;replace hB:=hB.trans (hb3.mono hB.size);clear hb3 hvm;by_cases hl4:l3<0
 ·clear hsm;go_wp2_with fail
  go_ret
  exact⟨rfl,hB⟩
 have hv:=hsm (by omega);clear hsm;go_wp2_with fail
 refine (szRecS_any ha hs hcp l3 _ (by omega) (by omega) hhm hhc (hH0.mono hB)).mono ?_;rintro e w3 ⟨l5,rfl,hl5,hsm,hb4⟩;replace hM:=ah hM hb4;replace hF:=ah hF hb4;replace hB:=hB.trans (hb4.mono hB.size);clear hb4 hhm hhc;by_cases hl6:l5<0
 ·clear hsm;go_wp2_with fail
  go_ret
  exact⟨rfl,hB⟩
 obtain⟨hhl,hhs⟩:=hsm (by omega);clear hsm hl hl0 hl2 hl1 hl3 hl4 hl5;have hnv:=hv.1;have hS:∀w',Below w3.heap.size w3 w'->w'.cell? ⟨w.heap.size,0,none⟩=some (.slice a1 ts.length c1)/\w'.cell? ⟨w.heap.size,1,none⟩=some (.slice a2 fs.length c2)/\w'.cell? ⟨w.heap.size+1,0,none⟩=some (.int .i64 D.fn)/\w'.cell? ⟨w.heap.size+1,1,none⟩=some (.int .i64 D.entry)/\w'.cell? ⟨w.heap.size+1,2,none⟩=some (.int .i64 D.vals)/\w'.cell? ⟨w.heap.size+1,3,none⟩=some (.int .i64 D.nums)/\w'.cell? ⟨w.heap.size+1,4,none⟩=some (.slice oa D.ops.length oc)/\w'.cell? ⟨w.heap.size+1,5,none⟩=some (.slice ea D.exits.length ec):=fun w' q=>⟨ckb hM q rfl,ckb hM q rfl,ckb hF q rfl,ckb hF q rfl,ckb hF q rfl,ckb hF q rfl,ckb hF q rfl,ckb hF q rfl⟩
 have HS:=hid hS;obtain⟨j0,j1,j2,j3,j4,j5,j6,j7⟩:=hS w3 b_r;have HMH:=hid hM;have HFH:=hid hF;have HBH:=hid hB;clear hS hB hM hF;have q:Below w3.heap.size w3 w3.drew:=b_r.drew;go_wp2
 go_region_held3 (fun w'=>w'.cell? ⟨w.heap.size,0,none⟩=some (.slice a1 ts.length c1)/\w'.cell? ⟨w.heap.size,1,none⟩=some (.slice a2 fs.length c2)/\w'.cell? ⟨w.heap.size+1,0,none⟩=some (.int .i64 D.fn)/\w'.cell? ⟨w.heap.size+1,1,none⟩=some (.int .i64 D.entry)/\w'.cell? ⟨w.heap.size+1,2,none⟩=some (.int .i64 D.vals)/\w'.cell? ⟨w.heap.size+1,3,none⟩=some (.int .i64 D.nums)/\w'.cell? ⟨w.heap.size+1,4,none⟩=some (.slice oa D.ops.length oc)/\w'.cell? ⟨w.heap.size+1,5,none⟩=some (.slice ea D.exits.length ec))
  (first | exact⟨j0,j1,j2,j3,j4,j5,j6,j7⟩ | exact HS.out _ q)
  (first
   | (go_at_call 10;refine (dD a1 a2 ts fs c1 c2 _ hsmm (by exact hst0.mono (HBH.out.trans (q.mono HBH.out.size))) (by exact hfn0.mono (HBH.out.trans (q.mono HBH.out.size)))).mono ?_;rintro e wm ⟨gm,gm2,-,-,rfl,hst9,hfn9,kd⟩;have q:=q.trans (kd.mono q.size))
   | (go_at_call 11;refine (HTOF.out _ hd (by exact hf0.mono (HBH.out.trans (q.mono HBH.out.size)))).mono ?_;rintro e wf ⟨gx1,gx2,rfl,hfx9,kd⟩;have hst9:=hst9.mono kd;have hfn9:=hfn9.mono kd;have q:=q.trans (kd.mono q.size))
   | (go_at_call 28;refine (cz va vals vc _ hnv (by exact hva0.mono (HBH.out.trans (q.mono HBH.out.size)))).mono ?_;rintro e wv ⟨rfl,hva9,-,kd⟩;have hst9:=hst9.mono kd;have hfn9:=hfn9.mono kd;have hfx9:=hfx9.mono kd;have q:=q.trans (kd.mono q.size))
   | (go_at_call 29;refine (dM na nums nc _ hnl (by exact hna0.mono (HBH.out.trans (q.mono HBH.out.size)))).mono ?_;rintro e wi ⟨rfl,hna9,-,kd⟩;have hst9:=hst9.mono kd;have hfn9:=hfn9.mono kd;have hfx9:=hfx9.mono kd;have hva9:=hva9.mono kd;have q:=q.trans (kd.mono q.size))
   | (go_at_call 30;refine (eS ha hs hcp _ hhl hhs (by exact hH0.mono (HBH.out.trans (q.mono HBH.out.size)))).mono ?_;rintro e wr9 ⟨rfl,hrb9,kd⟩;have hst9:=hst9.mono kd;have hfn9:=hfn9.mono kd;have hfx9:=hfx9.mono kd;have hva9:=hva9.mono kd;have hna9:=hna9.mono kd;have q:=q.trans (kd.mono q.size))
   | (go_at_call 27;refine (HSPC.out _ _ _ _ _ _ _ _ _ _ _ _ _ _ _ hsmm hd (by exact hst9.low (Nat.zero_le _)) (by exact hfn9.low (Nat.zero_le _)) (by exact hfx9.low (Nat.zero_le _)) (by exact hva9.lower (Nat.zero_le _)) (by exact hna9.low (Nat.zero_le _)) (by exact hrb9.low (Nat.zero_le _)) hv hnl hhl hhs).mono ?_;rintro e w4 ⟨⟨aw,cw,ar,cr,fr,rs,rfl,hres0,hfw,hrw⟩,kd⟩;have q:=q.trans (kd.mono q.size)))
 have hM:=ah HMH.out q;have hF:=ah HFH.out q;have hB:=HBH.out.trans (q.mono HBH.out.size);clear HS HBH HMH HFH j0 j1 j2 j3 j4 j5 j6 j7;clear hst9 hfn9 hfx9 hva9 hna9 hrb9 kd q HSPC;have HR0:=hid hres0;obtain⟨hfr4,hrs120,hsf1,hsf2,hsr⟩:=hres0.small hd hv hhs;clear hres0;have hfrn:fr.length<=1048576:=by omega
 have hrsn:rs.length<=1048576:=by omega
 have hfc:∀f∈fr,f.locals.length<=1048576/\f.stack.length<=1048576:=fun f hf=>⟨(hsf1 f hf).1,(hsf2 f hf).1⟩
 have hrc:∀r∈rs,r.length<=1048576:=fun r hr=>(hsr r hr).1
 have hfz:=fsz_small hfr4 hfc;have hrz:=rsz_small hrs120 hrc;have HFW:=hid hfw;have HRW:=hid hrw;clear hfw hrw;have Z0:=hid hB.size;have HLT0:=hid (ay hF);have B4:=hid (Below.refl w4.heap.size w4);have z1:=ae hM;go_wp2_with fail
 clear z1;refine (toModule_made a1 a2 ts fs c1 c2 _ hsmm (hst0.mono hB) (hfn0.mono hB)).mono ?_;rintro e w5 ⟨p,p2,hp,hp2,rfl,hst,hfn,hb5,htb,hfb⟩;replace hM:=ah hM hb5;replace hF:=ah hF hb5;replace hB:=hB.trans (hb5.mono hB.size);have B5:=hid (B4.out.trans (hb5.mono B4.out.size));clear hb5 B4;replace hst:=hst.low (Nat.zero_le _);replace hfn:=hfn.low (Nat.zero_le _);obtain⟨w6,hw6⟩:∃w6,w6=w5.alloc (.cells #[.slice (some ⟨p,0,none⟩) ts.length ts.length,.slice (some ⟨p2,0,none⟩) fs.length fs.length] 36):=⟨_,rfl⟩;have hbq:Below w5.heap.size w5 w6:=by rw[hw6];exact b_r.alloc n_l _
 have hP:w6.heap[w5.heap.size]?=some (.cells #[.slice (some ⟨p,0,none⟩) ts.length ts.length,.slice (some ⟨p2,0,none⟩) fs.length fs.length] 36 (0,0)):=by rw[hw6];exact al _ _ _
 have z1:=ae (au hF (.cells #[.slice (some ⟨p,0,none⟩) ts.length ts.length,.slice (some ⟨p2,0,none⟩) fs.length fs.length] 36));replace hM:=ah hM hbq;replace hF:=ah hF hbq;replace hst:=hst.mono hbq;replace hfn:=hfn.mono hbq;replace htb:=htb.mono hbq;replace hfb:=hfb.mono hbq;replace hB:=hB.trans (hbq.mono hB.size);have B6:=hid (B5.out.trans (hbq.mono B5.out.size));clear B5;go_wp2_with fail
 rw[<-hw6];clear hw6 z1 hbq;refine (HTOB.out _ hd (hf0.mono hB)).mono ?_;rintro e w7 ⟨gf1,gf2,rfl,hfx,hob,hxb,hb7⟩;replace hfx:=hfx.low (Nat.zero_le _);replace hob:=hob.low B6.out.size;replace hxb:=hxb.low B6.out.size;replace hM:=ah hM hb7;replace hF:=ah hF hb7;replace hP:=ah hP hb7;replace hst:=hst.mono hb7;replace hfn:=hfn.mono hb7;replace htb:=htb.mono hb7;replace hfb:=hfb.mono hb7;replace hB:=hB.trans (hb7.mono hB.size);have B7:=hid (B6.out.trans (hb7.mono B6.out.size));clear B6 hb7;obtain⟨w8,hw8⟩:∃w8,w8=w7.alloc (.cells #[.int .i64 D.fn,.int .i64 D.entry,.int .i64 D.vals,.int .i64 D.nums,.slice (some ⟨gf1,0,none⟩) D.ops.length D.ops.length,.slice (some ⟨gf2,0,none⟩) D.exits.length D.exits.length] 41):=⟨_,rfl⟩;have hbq:Below w7.heap.size w7 w8:=by rw[hw8];exact b_r.alloc n_l _
 have hQ:w8.heap[w7.heap.size]?=some (.cells #[.int .i64 D.fn,.int .i64 D.entry,.int .i64 D.vals,.int .i64 D.nums,.slice (some ⟨gf1,0,none⟩) D.ops.length D.ops.length,.slice (some ⟨gf2,0,none⟩) D.exits.length D.exits.length] 41 (0,0)):=by rw[hw8];exact al _ _ _
 replace hM:=ah hM hbq;replace hF:=ah hF hbq;replace hP:=ah hP hbq;replace hst:=hst.mono hbq;replace hfn:=hfn.mono hbq;replace htb:=htb.mono hbq;replace hfb:=hfb.mono hbq;replace hfx:=hfx.mono hbq;replace hob:=hob.mono hbq;replace hxb:=hxb.mono hbq;replace hB:=hB.trans (hbq.mono hB.size);have B8:=hid (B7.out.trans (hbq.mono B7.out.size));clear B7;go_wp2_with fail
 rw[<-hw8];clear hw8 hbq;refine (cz va vals vc _ hnv (hva0.mono hB)).mono ?_;rintro e w9 ⟨rfl,hx3,hvb,hb9⟩;replace hx3:=hx3.lower (Nat.zero_le _);replace hvb:VBk w9 w8.heap.size vals.length:=hvb;replace hM:=ah hM hb9;replace hF:=ah hF hb9;replace hP:=ah hP hb9;replace hQ:=ah hQ hb9;replace hst:=hst.mono hb9;replace hfn:=hfn.mono hb9;replace htb:=htb.mono hb9;replace hfb:=hfb.mono hb9;replace hfx:=hfx.mono hb9;replace hob:=hob.mono hb9;replace hxb:=hxb.mono hb9;replace hB:=hB.trans (hb9.mono hB.size);have B9:=hid (B8.out.trans (hb9.mono B8.out.size));have Z8:=hid B8.out.size;clear B8 hb9;go_wp2_with fail
 refine (dM na nums nc _ hnl (hna0.mono hB)).mono ?_;rintro e w10 ⟨rfl,hx4,hib,hb10⟩;replace hx4:=hx4.low (Nat.zero_le _);replace hM:=ah hM hb10;replace hF:=ah hF hb10;replace hP:=ah hP hb10;replace hQ:=ah hQ hb10;replace hst:=hst.mono hb10;replace hfn:=hfn.mono hb10;replace htb:=htb.mono hb10;replace hfb:=hfb.mono hb10;replace hfx:=hfx.mono hb10;replace hob:=hob.mono hb10;replace hxb:=hxb.mono hb10;replace hx3:=hx3.mono hb10;replace hvb:=hvb.mono hb10;replace hB:=hB.trans (hb10.mono hB.size);have B10:=hid (B9.out.trans (hb10.mono B9.out.size));have Z9:=hid B9.out.size;have Y9:=hid (lt_vb hvb);clear B9 hb10;go_wp2_with fail
 refine (eS ha hs hcp _ hhl hhs (hH0.mono hB)).mono ?_;rintro e w11 ⟨rfl,hrb,hb11⟩;obtain⟨R,hRe,hRl,hrsh⟩:=(hrb.low B10.out.size).sh
 cases hRe;have hx5:=hrb.at.low (Nat.zero_le _);replace hM:=ah hM hb11;replace hF:=ah hF hb11;replace hP:=ah hP hb11;replace hQ:=ah hQ hb11;replace hst:=hst.mono hb11;replace hfn:=hfn.mono hb11;replace htb:=htb.mono hb11;replace hfb:=hfb.mono hb11;replace hfx:=hfx.mono hb11;replace hob:=hob.mono hb11;replace hxb:=hxb.mono hb11;replace hx3:=hx3.mono hb11;replace hvb:=hvb.mono hb11;replace hx4:=hx4.mono hb11;replace hib:=hib.mono hb11;replace hB:=hB.trans (hb11.mono hB.size);have B11:=hid (B10.out.trans (hb11.mono B10.out.size));have hvlt:=hid (show w8.heap.size<w11.heap.size from lt_vb hvb)
 clear B10 hb11 hrb;have z1:=ae hP;have z2:=ae hQ;go_wp2_with fail
 clear z1 z2;refine (HIMP.out _ _ _ _ _ _ _ _ _ _ _ _ _ _ _ hsmm hd hst hfn hfx (hsh.mono hB) (hDB.mono hB) hx3 hx4 hx5 hv hnl hhl hhs).mono ?_;rintro e w12 ⟨⟨vF,vR,fr',rs',rfl,hres,hG⟩,hb12⟩;obtain⟨rfl,rfl⟩:=HR0.out.one hres;obtain⟨ga,gc,rfl,-⟩:=hG.frs;obtain⟨gr,grc,rfl,-⟩:=hG.recs;clear hres;replace hM:=ah hM hb12;replace hF:=ah hF hb12;replace hP:=ah hP hb12;replace hQ:=ah hQ hb12;replace hst:=hst.mono hb12;replace hfn:=hfn.mono hb12;replace htb:=htb.mono hb12;replace hfb:=hfb.mono hb12;replace hfx:=hfx.mono hb12;replace hob:=hob.mono hb12;replace hxb:=hxb.mono hb12;replace hx3:=hx3.mono hb12;replace hvb:=hvb.mono hb12;replace hx4:=hx4.mono hb12;replace hib:=hib.mono hb12;replace hx5:=hx5.mono hb12;replace hrsh:=hrsh.mono hb12;replace hB:=hB.trans (hb12.mono hB.size);have B12:=hid (B11.out.trans (hb12.mono B11.out.size));have Z11:=hid B11.out.size;have HLT:Hid (w.heap.size+1<w11.heap.size):=Nat.lt_of_lt_of_le HLT0.out B11.out.size;have Y12:=hid hb12.size;clear B11 hb12;have hgf:=hG.frs';have hfw:=HFW.out.mono B12.out;go_wp2_with fail
 refine (dE ga aw fr gc cw _ hfrn hsf1 hsf2 hgf hfw).mono ?_;rintro e w13 ⟨rfl,hb⟩;replace hM:=ah hM hb;replace hF:=ah hF hb;replace hP:=ah hP hb;replace hQ:=ah hQ hb;replace hst:=hst.mono hb;replace hfn:=hfn.mono hb;replace htb:=htb.mono hb;replace hfb:=hfb.mono hb;replace hfx:=hfx.mono hb;replace hob:=hob.mono hb;replace hxb:=hxb.mono hb;replace hx3:=hx3.mono hb;replace hvb:=hvb.mono hb;replace hx4:=hx4.mono hb;replace hib:=hib.mono hb;replace hx5:=hx5.mono hb;replace hrsh:=hrsh.mono hb;replace hG:=hG.mono hb;replace hB:=hB.trans (hb.mono hB.size);have B13:=hid (B12.out.trans (hb.mono B12.out.size));have Y13:=hid (Nat.le_trans Y12.out hb.size);clear B12 hb hgf hfw;have hgr:=hG.recs';have hrw:=HRW.out.mono B13.out;go_wp2_with fail
 refine (dN gr ar rs grc cr _ hrsn hsr hgr hrw).mono ?_;rintro e w14 ⟨rfl,hb⟩;replace hM:=ah hM hb;replace hF:=ah hF hb;replace hP:=ah hP hb;replace hQ:=ah hQ hb;replace hst:=hst.mono hb;replace hfn:=hfn.mono hb;replace htb:=htb.mono hb;replace hfb:=hfb.mono hb;replace hfx:=hfx.mono hb;replace hob:=hob.mono hb;replace hxb:=hxb.mono hb;replace hx3:=hx3.mono hb;replace hvb:=hvb.mono hb;replace hx4:=hx4.mono hb;replace hib:=hib.mono hb;replace hx5:=hx5.mono hb;replace hrsh:=hrsh.mono hb;replace hG:=hG.mono hb;replace hB:=hB.trans (hb.mono hB.size);have B14:=hid (B13.out.trans (hb.mono B13.out.size));have Y14:=hid (Nat.le_trans Y13.out hb.size);clear B13 hb hgr hrw;have hS:∀w',Below w14.heap.size w14 w'->w'.cell? ⟨w5.heap.size,0,none⟩=some (.slice (some ⟨p,0,none⟩) ts.length ts.length)/\w'.cell? ⟨w5.heap.size,1,none⟩=some (.slice (some ⟨p2,0,none⟩) fs.length fs.length)/\w'.cell? ⟨w.heap.size,0,none⟩=some (.slice a1 ts.length c1)/\w'.cell? ⟨w.heap.size,1,none⟩=some (.slice a2 fs.length c2):=fun w' q=>⟨ckb hP q rfl,ckb hP q rfl,ckb hM q rfl,ckb hM q rfl⟩
 have HS:=hid hS;obtain⟨j0,j1,j2,j3⟩:=hS w14 b_r;have HMH:=hid hM;have HFH:=hid hF;have HPH:=hid hP;have HQH:=hid hQ;have HBH:=hid hB;clear hS hB hM hF hP hQ;have q:Below w14.heap.size w14 w14.drew:=b_r.drew;go_wp2
 go_region_held3 (fun w'=>w'.cell? ⟨w5.heap.size,0,none⟩=some (.slice (some ⟨p,0,none⟩) ts.length ts.length)/\w'.cell? ⟨w5.heap.size,1,none⟩=some (.slice (some ⟨p2,0,none⟩) fs.length fs.length)/\w'.cell? ⟨w.heap.size,0,none⟩=some (.slice a1 ts.length c1)/\w'.cell? ⟨w.heap.size,1,none⟩=some (.slice a2 fs.length c2))
  (first | exact⟨j0,j1,j2,j3⟩ | exact HS.out _ q)
  (first
   | (go_at_call 10;refine (dD a1 a2 ts fs c1 c2 _ hsmm (by exact hst0.mono (HBH.out.trans (q.mono HBH.out.size))) (by exact hfn0.mono (HBH.out.trans (q.mono HBH.out.size)))).mono ?_;rintro e wm ⟨gm,gm2,-,-,rfl,hst9,hfn9,kd⟩;have q:=q.trans (kd.mono q.size))
   | (go_at_call 14;refine (eqModule_any _ _ _ _ ts fs _ _ _ _ _ hsmm (by exact hst.mono q) (by exact hst9.low (Nat.zero_le _)) (by exact hfn.mono q) (by exact hfn9.low (Nat.zero_le _))).mono ?_;rintro e w15 ⟨rfl,kd⟩;have q:=q.trans (kd.mono q.size)))
 have hM:=ah HMH.out q;have hF:=ah HFH.out q;have hP:=ah HPH.out q;have hQ:=ah HQH.out q;have hB:=HBH.out.trans (q.mono HBH.out.size);clear HS HBH HMH HFH HPH HQH j0 j1 j2 j3;replace htb:=htb.mono q;replace hfb:=hfb.mono q;replace hfx:=hfx.mono q;replace hob:=hob.mono q;replace hxb:=hxb.mono q;replace hx3:=hx3.mono q;replace hvb:=hvb.mono q;replace hx4:=hx4.mono q;replace hib:=hib.mono q;replace hx5:=hx5.mono q;replace hrsh:=hrsh.mono q;replace hG:=hG.mono q;have B15:=hid (B14.out.trans (q.mono B14.out.size));have Y15:=hid (Nat.le_trans Y14.out q.size);clear B14 hst9 hfn9 hst hfn kd q;have hS:∀w',Below w15.heap.size w15 w'->w'.cell? ⟨w7.heap.size,0,none⟩=some (.int .i64 D.fn)/\w'.cell? ⟨w7.heap.size,1,none⟩=some (.int .i64 D.entry)/\w'.cell? ⟨w7.heap.size,2,none⟩=some (.int .i64 D.vals)/\w'.cell? ⟨w7.heap.size,3,none⟩=some (.int .i64 D.nums)/\w'.cell? ⟨w7.heap.size,4,none⟩=some (.slice (some ⟨gf1,0,none⟩) D.ops.length D.ops.length)/\w'.cell? ⟨w7.heap.size,5,none⟩=some (.slice (some ⟨gf2,0,none⟩) D.exits.length D.exits.length)/\w'.cell? ⟨w.heap.size+1,0,none⟩=some (.int .i64 D.fn)/\w'.cell? ⟨w.heap.size+1,1,none⟩=some (.int .i64 D.entry)/\w'.cell? ⟨w.heap.size+1,2,none⟩=some (.int .i64 D.vals)/\w'.cell? ⟨w.heap.size+1,3,none⟩=some (.int .i64 D.nums)/\w'.cell? ⟨w.heap.size+1,4,none⟩=some (.slice oa D.ops.length oc)/\w'.cell? ⟨w.heap.size+1,5,none⟩=some (.slice ea D.exits.length ec):=fun w' q=>⟨ckb hQ q rfl,ckb hQ q rfl,ckb hQ q rfl,ckb hQ q rfl,ckb hQ q rfl,ckb hQ q rfl,ckb hF q rfl,ckb hF q rfl,ckb hF q rfl,ckb hF q rfl,ckb hF q rfl,ckb hF q rfl⟩
 have HS:=hid hS;obtain⟨j0,j1,j2,j3,j4,j5,j6,j7,j8,j9,j10,j11⟩:=hS w15 b_r;have HMH:=hid hM;have HFH:=hid hF;have HPH:=hid hP;have HQH:=hid hQ;have HBH:=hid hB;clear hS hB hM hF hP hQ;have q:Below w15.heap.size w15 w15.drew:=b_r.drew;go_wp2
 go_region_held3 (fun w'=>w'.cell? ⟨w7.heap.size,0,none⟩=some (.int .i64 D.fn)/\w'.cell? ⟨w7.heap.size,1,none⟩=some (.int .i64 D.entry)/\w'.cell? ⟨w7.heap.size,2,none⟩=some (.int .i64 D.vals)/\w'.cell? ⟨w7.heap.size,3,none⟩=some (.int .i64 D.nums)/\w'.cell? ⟨w7.heap.size,4,none⟩=some (.slice (some ⟨gf1,0,none⟩) D.ops.length D.ops.length)/\w'.cell? ⟨w7.heap.size,5,none⟩=some (.slice (some ⟨gf2,0,none⟩) D.exits.length D.exits.length)/\w'.cell? ⟨w.heap.size+1,0,none⟩=some (.int .i64 D.fn)/\w'.cell? ⟨w.heap.size+1,1,none⟩=some (.int .i64 D.entry)/\w'.cell? ⟨w.heap.size+1,2,none⟩=some (.int .i64 D.vals)/\w'.cell? ⟨w.heap.size+1,3,none⟩=some (.int .i64 D.nums)/\w'.cell? ⟨w.heap.size+1,4,none⟩=some (.slice oa D.ops.length oc)/\w'.cell? ⟨w.heap.size+1,5,none⟩=some (.slice ea D.exits.length ec))
  (first | exact⟨j0,j1,j2,j3,j4,j5,j6,j7,j8,j9,j10,j11⟩ | exact HS.out _ q)
  (first
   | (go_at_call 11;refine (HTOF.out _ hd (by exact hf0.mono (HBH.out.trans (q.mono HBH.out.size)))).mono ?_;rintro e wf ⟨k1,k2,rfl,hfz9,kd⟩;have q:=q.trans (kd.mono q.size))
   | (go_at_call 15;refine (HEQF.out _ _ _ _ _ _ _ _ _ hd (by exact hfx.mono q) (by exact hfz9.low (Nat.zero_le _))).mono ?_;rintro e w16 ⟨rfl,kd⟩;have q:=q.trans (kd.mono q.size)))
 have hM:=ah HMH.out q;have hF:=ah HFH.out q;have hP:=ah HPH.out q;have hQ:=ah HQH.out q;have hB:=HBH.out.trans (q.mono HBH.out.size);clear HS HBH HMH HFH HPH HQH j0 j1 j2 j3 j4 j5 j6 j7 j8 j9 j10 j11;replace htb:=htb.mono q;replace hfb:=hfb.mono q;replace hob:=hob.mono q;replace hxb:=hxb.mono q;replace hx3:=hx3.mono q;replace hvb:=hvb.mono q;replace hx4:=hx4.mono q;replace hib:=hib.mono q;replace hx5:=hx5.mono q;replace hrsh:=hrsh.mono q;replace hG:=hG.mono q;have B16:=hid (B15.out.trans (q.mono B15.out.size));have Y16:=hid (Nat.le_trans Y15.out q.size);clear B15 hfz9 hfx kd q HEQF;go_wp2_with fail
 refine (cz va vals vc _ hnv (hva0.mono hB)).mono ?_;rintro e w17 ⟨rfl,hcp9,-,hb⟩;replace hM:=ah hM hb;replace hF:=ah hF hb;replace hP:=ah hP hb;replace hQ:=ah hQ hb;replace htb:=htb.mono hb;replace hfb:=hfb.mono hb;replace hob:=hob.mono hb;replace hxb:=hxb.mono hb;replace hx3:=hx3.mono hb;replace hvb:=hvb.mono hb;replace hx4:=hx4.mono hb;replace hib:=hib.mono hb;replace hx5:=hx5.mono hb;replace hrsh:=hrsh.mono hb;replace hG:=hG.mono hb;replace hB:=hB.trans (hb.mono hB.size);have B17:=hid (B16.out.trans (hb.mono B16.out.size));have Y17:=hid (Nat.le_trans Y16.out hb.size);clear B16 hb;go_wp2_with fail
 refine (cR _ _ vals _ _ _ hnv hx3 (hcp9.lower (Nat.zero_le _))).mono ?_;rintro e w18 ⟨rfl,hb⟩;replace hM:=ah hM hb;replace hF:=ah hF hb;replace hP:=ah hP hb;replace hQ:=ah hQ hb;replace htb:=htb.mono hb;replace hfb:=hfb.mono hb;replace hob:=hob.mono hb;replace hxb:=hxb.mono hb;replace hvb:=hvb.mono hb;replace hx4:=hx4.mono hb;replace hib:=hib.mono hb;replace hx5:=hx5.mono hb;replace hrsh:=hrsh.mono hb;replace hG:=hG.mono hb;replace hB:=hB.trans (hb.mono hB.size);have B18:=hid (B17.out.trans (hb.mono B17.out.size));have Y18:=hid (Nat.le_trans Y17.out hb.size);clear B17 hb hx3 hcp9;go_wp2_with fail
 refine (dM na nums nc _ hnl (hna0.mono hB)).mono ?_;rintro e w19 ⟨rfl,hcp9,-,hb⟩;replace hM:=ah hM hb;replace hF:=ah hF hb;replace hP:=ah hP hb;replace hQ:=ah hQ hb;replace htb:=htb.mono hb;replace hfb:=hfb.mono hb;replace hob:=hob.mono hb;replace hxb:=hxb.mono hb;replace hvb:=hvb.mono hb;replace hx4:=hx4.mono hb;replace hib:=hib.mono hb;replace hx5:=hx5.mono hb;replace hrsh:=hrsh.mono hb;replace hG:=hG.mono hb;replace hB:=hB.trans (hb.mono hB.size);have B19:=hid (B18.out.trans (hb.mono B18.out.size));have Y19:=hid (Nat.le_trans Y18.out hb.size);clear B18 hb;go_wp2_with fail
 refine (eqIntS_any _ _ nums _ _ _ hnl hx4 (hcp9.low (Nat.zero_le _))).mono ?_;rintro e w20 ⟨rfl,hb⟩;replace hM:=ah hM hb;replace hF:=ah hF hb;replace hP:=ah hP hb;replace hQ:=ah hQ hb;replace htb:=htb.mono hb;replace hfb:=hfb.mono hb;replace hob:=hob.mono hb;replace hxb:=hxb.mono hb;replace hvb:=hvb.mono hb;replace hib:=hib.mono hb;replace hx5:=hx5.mono hb;replace hrsh:=hrsh.mono hb;replace hG:=hG.mono hb;replace hB:=hB.trans (hb.mono hB.size);have B20:=hid (B19.out.trans (hb.mono B19.out.size));have Y20:=hid (Nat.le_trans Y19.out hb.size);clear B19 hb hx4 hcp9;go_wp2_with fail
 refine (eS ha hs hcp _ hhl hhs (hH0.mono hB)).mono ?_;rintro e w21 ⟨rfl,hcp9,hb⟩;replace hM:=ah hM hb;replace hF:=ah hF hb;replace hP:=ah hP hb;replace hQ:=ah hQ hb;replace htb:=htb.mono hb;replace hfb:=hfb.mono hb;replace hob:=hob.mono hb;replace hxb:=hxb.mono hb;replace hvb:=hvb.mono hb;replace hib:=hib.mono hb;replace hx5:=hx5.mono hb;replace hrsh:=hrsh.mono hb;replace hG:=hG.mono hb;replace hB:=hB.trans (hb.mono hB.size);have B21:=hid (B20.out.trans (hb.mono B20.out.size));have Y21:=hid (Nat.le_trans Y20.out hb.size);clear B20 hb;go_wp2_with fail
 refine (dN _ _ hs _ _ _ hhl hhs hx5 (hcp9.at.low (Nat.zero_le _))).mono ?_;rintro e w22 ⟨rfl,hb⟩;replace hM:=ah hM hb;replace hF:=ah hF hb;replace hP:=ah hP hb;replace hQ:=ah hQ hb;replace htb:=htb.mono hb;replace hfb:=hfb.mono hb;replace hob:=hob.mono hb;replace hxb:=hxb.mono hb;replace hvb:=hvb.mono hb;replace hib:=hib.mono hb;replace hrsh:=hrsh.mono hb;replace hG:=hG.mono hb;replace hB:=hB.trans (hb.mono hB.size);have B22:=hid (B21.out.trans (hb.mono B21.out.size));have Y22:=hid (Nat.le_trans Y21.out hb.size);clear B21 hb hx5 hcp9;have z1:=ae hP;go_wp2_with fail
 clear z1;refine (markModule_any w4.heap.size p p2 _ _ ts fs _ hsmm hp hp2 htb hfb).mono ?_;rintro e w23 ⟨km,rfl,hkm,hkm2,hk⟩;have hbk:=hk.toBelow B22.out.size;replace hM:=hk.cell hM (by decide);replace hF:=hk.cell hF (by decide);replace hP:=hk.cell hP (by decide);replace hQ:=hk.cell hQ (by decide);replace hob:=hob.keeps hk (by decide);replace hxb:=hxb.keeps hk (by decide);replace hvb:=hvb.keeps hk (by decide);replace hib:=hib.keeps hk (by decide);replace hrsh:=hrsh.keeps hk (by decide);replace hG:=hG.keeps hk (by decide);have B23:=hid (B22.out.trans hbk);have Y23:=hid (Nat.le_trans Y22.out hk.size);replace hB:=hB.trans (hbk.mono Z0.out);clear B22 hbk hk;clear htb hfb;obtain⟨kn,hkn⟩:∃kn:Nat,km=(kn:Int):=⟨km.toNat,by omega⟩;subst hkn;have HKZ:Hid (kn+10*mFast D<=100000000000000):=by have:=HME.out;show _<=_;omega
 clear hkm hkm2;have z1:=ae hQ;go_wp2_with fail
 clear z1;refine (HMKF.out w4.heap.size gf1 gf2 _ _ kn _ hd HKZ.out hob hxb).mono ?_;rintro e w24 ⟨kn2,rfl,-,hkn2,-,hk⟩;have hbk:=hk.toBelow B23.out.size;replace hM:=hk.cell hM (by decide);replace hF:=hk.cell hF (by decide);replace hP:=hk.cell hP (by decide);replace hQ:=hk.cell hQ (by decide);replace hvb:=hvb.keeps hk (by decide);replace hib:=hib.keeps hk (by decide);replace hrsh:=hrsh.keeps hk (by decide);replace hG:=hG.keeps hk (by decide);have B24:=hid (B23.out.trans hbk);have Y24:=hid (Nat.le_trans Y23.out hk.size);replace hB:=hB.trans (hbk.mono Z0.out);clear B23 hbk hk;clear hob hxb HKZ HMKF;go_wp2_with fail
 refine (markValueS_w w4.heap.size w11.heap.size w8.heap.size vals.length _ kn2 _ hnv (by omega) Z8.out hvlt.out hvb).mono ?_;rintro e w25 ⟨rfl,hk,hks,hko⟩;have hbk:=hk.toBelow B24.out.size;replace hM:=hk.cell hM (by decide);replace hF:=hk.cell hF (by decide);replace hP:=hk.cell hP (by decide);replace hQ:=hk.cell hQ (by decide);replace hib:=hib.keeps hk (by decide);replace hrsh:=hrsh.keep hk (by decide) hks;replace hG:=hG.only hko;have B25:=hid (B24.out.trans hbk);have Y25:=hid (Nat.le_trans Y24.out hk.size);replace hB:=hB.trans (hbk.mono Z0.out);clear B24 hbk hk;clear hvb hks hko;go_wp2_with fail
 refine (markIntS_w w4.heap.size w9.heap.size nums.length _ (kn2+3*vals.length) _ hnl (by omega) Z9.out hib).mono ?_;rintro e w26 ⟨rfl,hk⟩;have hbk:=hk.toBelow B25.out.size;replace hM:=hk.cell hM (by decide);replace hF:=hk.cell hF (by decide);replace hP:=hk.cell hP (by decide);replace hQ:=hk.cell hQ (by decide);replace hrsh:=hrsh.keeps hk (by decide);replace hG:=hG.keeps hk (by decide);have B26:=hid (B25.out.trans hbk);have Y26:=hid (Nat.le_trans Y25.out hk.size);replace hB:=hB.trans (hbk.mono Z0.out);clear B25 hbk hk;clear hib;go_wp2_with fail
 refine (markRecS_w w4.heap.size w11.heap.size w10.heap.size _ (kn2+3*vals.length+nums.length) hs _ hhl (fun r hr=>(hhs r hr).1) (by omega) hrsh).mono ?_;rintro e w27 ⟨kn3,rfl,hk3a,hk3b,hk,hks,hko⟩;have hbk:=hk.toBelow B26.out.size;replace hM:=hk.cell hM (by decide);replace hF:=hk.cell hF (by decide);replace hP:=hk.cell hP (by decide);replace hQ:=hk.cell hQ (by decide);replace hG:=hG.only hko;have B27:=hid (B26.out.trans hbk);have Y27:=hid (Nat.le_trans Y26.out hk.size);replace hB:=hB.trans (hbk.mono Z0.out);clear B26 hbk hk;clear hrsh hks hko hP hQ;have hkz:¬((kn3:Int)<0):=by omega
 have hgf:=hG.frs';have hfw:=HFW.out.mono B27.out;go_wp2_with fail
 refine (dE ga aw fr gc cw _ hfrn hsf1 hsf2 hgf hfw).mono ?_;rintro e w28 ⟨rfl,hb⟩;replace hM:=ah hM hb;replace hF:=ah hF hb;replace hG:=hG.mono hb;replace hB:=hB.trans (hb.mono hB.size);have B28:=hid (B27.out.trans (hb.mono B27.out.size));have Y28:=hid (Nat.le_trans Y27.out hb.size);clear B27 hb hgf hfw;have hgr:=hG.recs';have hrw:=HRW.out.mono B28.out;go_wp2_with fail
 refine (dN gr ar rs grc cr _ hrsn hsr hgr hrw).mono ?_;rintro e w29 ⟨rfl,hb⟩;replace hM:=ah hM hb;replace hF:=ah hF hb;replace hG:=hG.mono hb;replace hB:=hB.trans (hb.mono hB.size);have B29:=hid (B28.out.trans (hb.mono B28.out.size));have Y29:=hid (Nat.le_trans Y28.out hb.size);clear B28 hb hgr hrw;have hlt11:w.heap.size+1<w11.heap.size:=HLT.out;have hA:=hG.ans;clear hG hkz;have hhi:w11.heap.size<=w29.heap.size:=Y29.out;go_wp2_with fail
 refine (markF_g hfrn hfc hhi hA).mono ?_;rintro e w30 ⟨rfl,hA30,hb⟩;have B30:=hid (B29.out.trans (hb.mono Z11.out));have Y30:=hid (Nat.le_trans Y29.out hb.size);have hb9:Below w.heap.size w29 w30:=hb.mono (Nat.le_trans Z0.out Z11.out);have hMlt:w.heap.size+1<w11.heap.size:=hlt11;replace hM:=(hb.block _ (show w.heap.size<w11.heap.size by omega)).trans hM
 replace hF:=(hb.block _ (show w.heap.size+1<w11.heap.size by omega)).trans hF
 replace hB:=hB.trans hb9;clear B29 hb hb9 hMlt hhi;clear hA;have hhi:w11.heap.size<=w30.heap.size:=Y30.out;go_wp2_with fail
 refine (markR_g hrsn hrc hfz hhi hA30).mono ?_;rintro e w31 ⟨rfl,hA31,hb⟩;have B31:=hid (B30.out.trans (hb.mono Z11.out));have Y31:=hid (Nat.le_trans Y30.out hb.size);have hb9:Below w.heap.size w30 w31:=hb.mono (Nat.le_trans Z0.out Z11.out);have hMlt:w.heap.size+1<w11.heap.size:=hlt11;replace hM:=(hb.block _ (show w.heap.size<w11.heap.size by omega)).trans hM
 replace hF:=(hb.block _ (show w.heap.size+1<w11.heap.size by omega)).trans hF
 replace hB:=hB.trans hb9;clear B30 hb hb9 hMlt hhi;clear hA30;go_wp2_with fail
 refine (heldF_g hfrn hfc hA31).mono ?_;rintro e w32 ⟨rfl,hb⟩;replace hM:=ah hM hb;replace hF:=ah hF hb;replace hA31:=hA31.mono hb;replace hB:=hB.trans (hb.mono hB.size);have B32:=hid (B31.out.trans (hb.mono B31.out.size));have Y32:=hid (Nat.le_trans Y31.out hb.size);clear B31 hb;have hq1:¬(((1+fsz fr:Nat):Int)<0):=by omega
 go_wp2_with fail
 refine (heldR_g hrsn hrc hfz hA31).mono ?_;rintro e w33 ⟨rfl,hb⟩;replace hM:=ah hM hb;replace hF:=ah hF hb;replace hA31:=hA31.mono hb;replace hB:=hB.trans (hb.mono hB.size);have B33:=hid (B32.out.trans (hb.mono B32.out.size));have Y33:=hid (Nat.le_trans Y32.out hb.size);have hq2:¬(((1+fsz fr+rsz rs:Nat):Int)<0):=by omega
 clear B32 hb;have hS:∀w',Below w33.heap.size w33 w'->w'.cell? ⟨w.heap.size,0,none⟩=some (.slice a1 ts.length c1)/\w'.cell? ⟨w.heap.size,1,none⟩=some (.slice a2 fs.length c2)/\w'.cell? ⟨w.heap.size+1,0,none⟩=some (.int .i64 D.fn)/\w'.cell? ⟨w.heap.size+1,1,none⟩=some (.int .i64 D.entry)/\w'.cell? ⟨w.heap.size+1,2,none⟩=some (.int .i64 D.vals)/\w'.cell? ⟨w.heap.size+1,3,none⟩=some (.int .i64 D.nums)/\w'.cell? ⟨w.heap.size+1,4,none⟩=some (.slice oa D.ops.length oc)/\w'.cell? ⟨w.heap.size+1,5,none⟩=some (.slice ea D.exits.length ec):=fun w' q=>⟨ckb hM q rfl,ckb hM q rfl,ckb hF q rfl,ckb hF q rfl,ckb hF q rfl,ckb hF q rfl,ckb hF q rfl,ckb hF q rfl⟩
 have HS:=hid hS;obtain⟨j0,j1,j2,j3,j4,j5,j6,j7⟩:=hS w33 b_r;have HMH:=hid hM;have HFH:=hid hF;have HBH:=hid hB;clear hS hB hM hF;have q:Below w33.heap.size w33 w33.drew:=b_r.drew;go_wp2
 go_region_held3 (fun w'=>w'.cell? ⟨w.heap.size,0,none⟩=some (.slice a1 ts.length c1)/\w'.cell? ⟨w.heap.size,1,none⟩=some (.slice a2 fs.length c2)/\w'.cell? ⟨w.heap.size+1,0,none⟩=some (.int .i64 D.fn)/\w'.cell? ⟨w.heap.size+1,1,none⟩=some (.int .i64 D.entry)/\w'.cell? ⟨w.heap.size+1,2,none⟩=some (.int .i64 D.vals)/\w'.cell? ⟨w.heap.size+1,3,none⟩=some (.int .i64 D.nums)/\w'.cell? ⟨w.heap.size+1,4,none⟩=some (.slice oa D.ops.length oc)/\w'.cell? ⟨w.heap.size+1,5,none⟩=some (.slice ea D.exits.length ec))
  (first | exact⟨j0,j1,j2,j3,j4,j5,j6,j7⟩ | exact HS.out _ q)
  (first
   | (go_at_call 10;refine (dD a1 a2 ts fs c1 c2 _ hsmm (by exact hst0.mono (HBH.out.trans (q.mono HBH.out.size))) (by exact hfn0.mono (HBH.out.trans (q.mono HBH.out.size)))).mono ?_;rintro e wm ⟨gm,gm2,-,-,rfl,hst9,hfn9,kd⟩;have q:=q.trans (kd.mono q.size))
   | (go_at_call 11;refine (HTOF.out _ hd (by exact hf0.mono (HBH.out.trans (q.mono HBH.out.size)))).mono ?_;rintro e wf ⟨gx1,gx2,rfl,hfx9,kd⟩;have hst9:=hst9.mono kd;have hfn9:=hfn9.mono kd;have q:=q.trans (kd.mono q.size))
   | (go_at_call 28;refine (cz va vals vc _ hnv (by exact hva0.mono (HBH.out.trans (q.mono HBH.out.size)))).mono ?_;rintro e wv ⟨rfl,hva9,-,kd⟩;have hst9:=hst9.mono kd;have hfn9:=hfn9.mono kd;have hfx9:=hfx9.mono kd;have q:=q.trans (kd.mono q.size))
   | (go_at_call 29;refine (dM na nums nc _ hnl (by exact hna0.mono (HBH.out.trans (q.mono HBH.out.size)))).mono ?_;rintro e wi ⟨rfl,hna9,-,kd⟩;have hst9:=hst9.mono kd;have hfn9:=hfn9.mono kd;have hfx9:=hfx9.mono kd;have hva9:=hva9.mono kd;have q:=q.trans (kd.mono q.size))
   | (go_at_call 30;refine (eS ha hs hcp _ hhl hhs (by exact hH0.mono (HBH.out.trans (q.mono HBH.out.size)))).mono ?_;rintro e wr9 ⟨rfl,hrb9,kd⟩;have hst9:=hst9.mono kd;have hfn9:=hfn9.mono kd;have hfx9:=hfx9.mono kd;have hva9:=hva9.mono kd;have hna9:=hna9.mono kd;have q:=q.trans (kd.mono q.size))
   | (go_at_call 31;refine (HIMP.out _ _ _ _ _ _ _ _ _ _ _ _ _ _ _ hsmm hd (by exact hst9.low (Nat.zero_le _)) (by exact hfn9.low (Nat.zero_le _)) (by exact hfx9.low (Nat.zero_le _)) (by exact hsh.mono (HBH.out.trans (q.mono HBH.out.size))) (by exact hDB.mono (HBH.out.trans (q.mono HBH.out.size))) (by exact hva9.lower (Nat.zero_le _)) (by exact hna9.low (Nat.zero_le _)) (by exact hrb9.at.low (Nat.zero_le _)) hv hnl hhl hhs).mono ?_;rintro e w34 ⟨⟨vF2,vR2,fr2,rs2,rfl,hres,hG⟩,kd⟩;obtain⟨rfl,rfl⟩:=HR0.out.one hres;obtain⟨ga,gc,rfl,-⟩:=hG.frs;obtain⟨gr,grc,rfl,-⟩:=hG.recs;clear hres;have q:=q.trans (kd.mono q.size)))
 have hM:=ah HMH.out q;have hF:=ah HFH.out q;have hB:=HBH.out.trans (q.mono HBH.out.size);clear HS HBH HMH HFH j0 j1 j2 j3 j4 j5 j6 j7;replace hA31:=hA31.mono q;have B34:=hid (B33.out.trans (q.mono B33.out.size));have Y34:=hid (Nat.le_trans Y33.out q.size);clear B33 hst9 hfn9 hfx9 hva9 hna9 hrb9 kd q hq1 hq2 hM hF HIMP HTOB HTOF;have hgf:=hG.frs';have hfw:=HFW.out.mono B34.out;go_wp2_with fail
 refine (dE ga aw fr gc cw _ hfrn hsf1 hsf2 hgf hfw).mono ?_;rintro e w35 ⟨rfl,hb⟩;replace hA31:=hA31.mono hb;replace hG:=hG.mono hb;replace hB:=hB.trans (hb.mono hB.size);have B35:=hid (B34.out.trans (hb.mono B34.out.size));have Y35:=hid (Nat.le_trans Y34.out hb.size);clear B34 hb hgf hfw;have hgr:=hG.recs';have hrw:=HRW.out.mono B35.out;go_wp2_with fail
 refine (dN gr ar rs grc cr _ hrsn hsr hgr hrw).mono ?_;rintro e w36 ⟨rfl,hb⟩;replace hA31:=hA31.mono hb;replace hG:=hG.mono hb;replace hB:=hB.trans (hb.mono hB.size);have B36:=hid (B35.out.trans (hb.mono B35.out.size));have Y36:=hid (Nat.le_trans Y35.out hb.size);clear B35 hb hgr hrw;clear hG;go_wp2_with fail
 refine (heldF_g hfrn hfc hA31).mono ?_;rintro e w37 ⟨rfl,hb⟩;replace hA31:=hA31.mono hb;replace hB:=hB.trans (hb.mono hB.size);have B37:=hid (B36.out.trans (hb.mono B36.out.size));have Y37:=hid (Nat.le_trans Y36.out hb.size);clear B36 hb;have hq1:¬(((1+fsz fr:Nat):Int)<0):=by omega
 go_wp2_with fail
 refine (heldR_g hrsn hrc hfz hA31).mono ?_;rintro e w38 ⟨rfl,hb⟩;replace hA31:=hA31.mono hb;replace hB:=hB.trans (hb.mono hB.size);have B38:=hid (B37.out.trans (hb.mono B37.out.size));have Y38:=hid (Nat.le_trans Y37.out hb.size);have hq2:¬(((1+fsz fr+rsz rs:Nat):Int)<0):=by omega
 clear B37 hb;have HRR:=hid hB;clear hA31 hB B38;go_wp2;go_ret
 exact⟨rfl,HRR.out⟩
end Go.Proofs.YtbjmgmmekmfjhaaGreatDoor
