/- TV30 -/
import Derived.Test.YtdlkbbgmjilccaaGreatDoorTV25
import Derived.Test.YtdlkbbgmjilccaaGreatDoorTV29
import Derived.Test.YtdlkbbgmjilccaaGreatDoorTV27
import Derived.RangeFuncRecord
set_option maxHeartbeats 32000000
set_option maxRecDepth 100000
namespace Go.Proofs.YtdlkbbgmjilccaaGreatDoor
open Go.RowKit
theorem entryOf_any(x:aH)(a0 a1:Option Addr)(n0 n1 c0 c1:Nat)(w:World) :
  Calls Tryz.prog 63 #[.agg #[.int .i64 x.fn,.int .i64 x.entry,.int .i64 x.vals,.int .i64 x.nums,.slice a0 n0 c0,.slice a1 n1 c1]] w fun e w'=>e=.returned (.agg #[.int .i64 x.fn,.int .i64 x.entry])/\Below w.heap.size w w':=by
 go_enter Tryz.func63,Tryz.ntmps63
 go_wp2;refine bodyPost_ret (v:=.agg #[.int .i64 x.fn,.int .i64 x.entry]) (by simp[results,Tryz.results63,go_sem]) rfl ⟨rfl,?_⟩;exact (gM.alloc nL _).alloc (by simp) _
theorem failedAt_any(f p k c:Int)(w:World) :
  Calls Tryz.prog 68 #[.agg #[.int .i64 f,.int .i64 p,.int .i64 k,.int .i64 c]] w fun e w'=>e=.returned (.agg #[.int .i64 f,.int .i64 p])/\Below w.heap.size w w':=by
 go_enter Tryz.func68,Tryz.ntmps68
 go_wp2;refine bodyPost_ret (v:=.agg #[.int .i64 f,.int .i64 p]) (by simp[results,Tryz.results68,go_sem]) rfl ⟨rfl,?_⟩;exact (gM.alloc nL _).alloc (by simp) _
theorem onceC_any(a:Option Addr)(xs:List aH)(cap:Nat)(w:World)(hn:xs.length<=1048576)(hm:cH w 0 a xs) :
  Calls Tryz.prog 62 #[.slice a xs.length cap,.func (.func 63) #[] #[]] w fun e w'=>e=.returned (.bool (pB ((xs.map fun x=>((x.fn,x.entry):Int×Int)).Nodup)))/\Below w.heap.size w w':=by
 have HM:=hidz hm;clear hm;obtain⟨qs,hqs⟩:∃qs,qs=xs.map fun x=>((x.fn,x.entry):Int×Int):=⟨_,rfl⟩
 have hql:qs.length=xs.length:=by rw[hqs,List.length_map]
 have HQ:Hid (∀k (h:k<xs.length) (h':k<qs.length),qs[k]=((xs[k].fn,xs[k].entry))):=fun k h h'=>by simp[hqs]
 rw[<-hqs];clear hqs;obtain⟨W,hW⟩:∃W,W=w.alloc (.map #[] 0):=⟨_,rfl⟩;have hmm:(Instr.makeMap 192 none).run Tryz.prog w=.ok (.map (some w.heap.size)) (w.alloc (.map #[] 0)):=rfl;have hb0:Below w.heap.size w W:=by rw[hW];exact gM.alloc nL _
 have hm0:MapP W w.heap.size (metP (qs.take 0)):=⟨#[],0,by rw[hW];exact World.alloc_heap_new w _,rfl⟩;have hs0:w.heap.size<W.heap.size:=by rw[hW];simp
 have HO:Hid (((metP qs).length=qs.length↔qs.Nodup)/\(metP qs).length<=qs.length):=metP_once qs;have HI:Hid (∀k≤qs.length,(metP (qs.take k)).length<=k):=fun k h=>(dZ qs k h).2.1
 go_enter Tryz.func62,Tryz.ntmps62
 go_upto_region 2 with fail
 rw[<-hW];clear hmm hW;obtain⟨b,hb⟩:∃b,b=w.heap.size:=⟨_,rfl⟩;rw[<-hb] at hm0 hs0 ⊢;have HB:Hid (b=w.heap.size):=hb;have HB0:=hidz hb0;clear hb0 hb;go_wp2_with fail
 go_loopw [11] (fun i wr=>∃(k:Nat),k<=xs.length/\i=.int .i64 k/\MapP wr b (metP (qs.take k))/\b<wr.heap.size/\Below w.heap.size w wr) (fun i _=>xs.length-(intOf i).toNat)
 case atStart=>exact⟨0,by omega,rfl,hm0,hs0,HB0.out⟩
 case round=>
  clear hm0 hs0;obtain⟨k,hk,rfl,hmp,hbs,hbr⟩:=hrel;by_cases hlt:k<xs.length
  ·obtain⟨b0,off,a0,c0,a1,c1,rfl,-,h0,h1,h2,h3,h4,h5,-,-⟩:=(HM.out.mono hbr) k hlt;obtain⟨wA,hwA⟩:∃wA,wA=wr.alloc (.cells #[.int .i64 xs[k].fn,.int .i64 xs[k].entry,.int .i64 xs[k].vals,.int .i64 xs[k].nums,.slice a0 xs[k].ops.length c0,.slice a1 xs[k].exits.length c1] 101):=⟨_,rfl⟩;have hbA:Below wr.heap.size wr wA:=by rw[hwA];exact gM.alloc nL _
   have HC:=hidz (entryOf_any xs[k] a0 a1 xs[k].ops.length xs[k].exits.length c0 c1 wA);have HM1:=hidz (hmp.mono hbA);have HBA:=hidz hbA;have HQK:Hid (qs[k]'(by omega)=((xs[k].fn,xs[k].entry))):=HQ.out k hlt _;have HT:Hid (metP (qs.take (k+1))=addP (metP (qs.take k)) ((xs[k].fn,xs[k].entry))):=by
    show _=_
    rw[eC qs k (by omega),HQK.out]
   have HW:=hidz hwA;clear hmp hbA hwA HQK;go_wp2_with fail
   rw[<-HW.out];clear HW h0 h1 h2 h3 h4 h5;refine HC.out.mono ?_;rintro e w2 ⟨rfl,hb2⟩;obtain⟨es,c,hput,hkeys⟩:=put_any ((xs[k].fn,xs[k].entry)) b _ w2 (HM1.out.mono hb2);unfold keyP at hput;have hbsz:b<w2.heap.size:=Nat.lt_of_lt_of_le (Nat.lt_of_lt_of_le hbs HBA.out.size) hb2.size;have HBU:Hid (But b wr (ChangeMaps.setBlock w2 b (.map es c))):=((But.of_below HBA.out).trans (But.of_below hb2)).trans (But.setB b w2 _);have HN:Hid (MapP (ChangeMaps.setBlock w2 b (.map es c)) b (metP (qs.take (k+1)))/\b<(ChangeMaps.setBlock w2 b (.map es c)).heap.size):=⟨⟨es,c,setB_at b w2 _ hbsz,by rw[HT.out];exact hkeys⟩,by simpa[ChangeMaps.setBlock] using hbsz⟩;have HF:Hid (Below w.heap.size w (ChangeMaps.setBlock w2 b (.map es c))):=But.below hbr HBU.out (by rw[HB.out];exact Nat.le_refl _) hbr.size;clear hkeys hb2 HC HM1 hbr hbs hbsz HBA;go_wp2_with fail
   go_roundw
   case rel=>exact⟨k+1,by omega,by go_num,HN.out.1,HN.out.2,HF.out⟩
   case measure=>simp[intOf];omega
  ·have hkl:k=xs.length:=by omega
   subst hkl;rw[<-hql,List.take_length] at hmp;have hle:=len_map b _ _ hmp;have hl2:=HO.out.2;have HBR:=hidz hbr;rw[hql] at hl2;by_cases hnd:qs.Nodup
   ·have he:(metP qs).length=xs.length:=by rw[HO.out.1.2 hnd,hql]
    rw[he] at hle;have HP:Hid (pB qs.Nodup=true):=ay hnd;clear hmp hnd he hl2 hbr;go_wp2;go_ret
    exact⟨by simp[HP.out],HBR.out⟩
   ·have he:(metP qs).length≠xs.length:=fun e=>hnd (HO.out.1.1 (by rw[e,hql]))
    have he2:(((metP qs).length:Int) == (xs.length:Int))=false:=by rw[beq_eq_false_iff_ne];omega
    have HP:Hid (pB qs.Nodup=false):=aw hnd;clear hmp hnd he hbr;go_wp2;go_ret
    exact⟨by simp[HP.out],HBR.out⟩
theorem onceF_any(a:Option Addr)(xs:List Si)(cap:Nat)(w:World)(hn:xs.length<=1048576)(hm:aS w 0 a xs) :
  Calls Tryz.prog 67 #[.slice a xs.length cap,.func (.func 68) #[] #[]] w fun e w'=>e=.returned (.bool (pB ((xs.map fun x=>((x.f,x.pc):Int×Int)).Nodup)))/\Below w.heap.size w w':=by
 have HM:=hidz hm;clear hm;obtain⟨qs,hqs⟩:∃qs,qs=xs.map fun x=>((x.f,x.pc):Int×Int):=⟨_,rfl⟩
 have hql:qs.length=xs.length:=by rw[hqs,List.length_map]
 have HQ:Hid (∀k (h:k<xs.length) (h':k<qs.length),qs[k]=((xs[k].f,xs[k].pc))):=fun k h h'=>by simp[hqs]
 rw[<-hqs];clear hqs;obtain⟨W,hW⟩:∃W,W=w.alloc (.map #[] 0):=⟨_,rfl⟩;have hmm:(Instr.makeMap 192 none).run Tryz.prog w=.ok (.map (some w.heap.size)) (w.alloc (.map #[] 0)):=rfl;have hb0:Below w.heap.size w W:=by rw[hW];exact gM.alloc nL _
 have hm0:MapP W w.heap.size (metP (qs.take 0)):=⟨#[],0,by rw[hW];exact World.alloc_heap_new w _,rfl⟩;have hs0:w.heap.size<W.heap.size:=by rw[hW];simp
 have HO:Hid (((metP qs).length=qs.length↔qs.Nodup)/\(metP qs).length<=qs.length):=metP_once qs;have HI:Hid (∀k≤qs.length,(metP (qs.take k)).length<=k):=fun k h=>(dZ qs k h).2.1
 go_enter Tryz.func67,Tryz.ntmps67
 go_upto_region 2 with fail
 rw[<-hW];clear hmm hW;obtain⟨b,hb⟩:∃b,b=w.heap.size:=⟨_,rfl⟩;rw[<-hb] at hm0 hs0 ⊢;have HB:Hid (b=w.heap.size):=hb;have HB0:=hidz hb0;clear hb0 hb;go_wp2_with fail
 go_loopw [11] (fun i wr=>∃(k:Nat),k<=xs.length/\i=.int .i64 k/\MapP wr b (metP (qs.take k))/\b<wr.heap.size/\Below w.heap.size w wr) (fun i _=>xs.length-(intOf i).toNat)
 case atStart=>exact⟨0,by omega,rfl,hm0,hs0,HB0.out⟩
 case round=>
  clear hm0 hs0;obtain⟨k,hk,rfl,hmp,hbs,hbr⟩:=hrel;by_cases hlt:k<xs.length
  ·obtain⟨b0,off,rfl,-,h0,h1,h2,h3⟩:=(HM.out.mono hbr) k hlt;obtain⟨wA,hwA⟩:∃wA,wA=wr.alloc (.cells #[.int .i64 xs[k].f,.int .i64 xs[k].pc,.int .i64 xs[k].seen,.int .i64 xs[k].target] 104):=⟨_,rfl⟩;have hbA:Below wr.heap.size wr wA:=by rw[hwA];exact gM.alloc nL _
   have HC:=hidz (failedAt_any xs[k].f xs[k].pc xs[k].seen xs[k].target wA);have HM1:=hidz (hmp.mono hbA);have HBA:=hidz hbA;have HQK:Hid (qs[k]'(by omega)=((xs[k].f,xs[k].pc))):=HQ.out k hlt _;have HT:Hid (metP (qs.take (k+1))=addP (metP (qs.take k)) ((xs[k].f,xs[k].pc))):=by
    show _=_
    rw[eC qs k (by omega),HQK.out]
   have HW:=hidz hwA;clear hmp hbA hwA HQK;go_wp2_with fail
   rw[<-HW.out];clear HW h0 h1 h2 h3;refine HC.out.mono ?_;rintro e w2 ⟨rfl,hb2⟩;obtain⟨es,c,hput,hkeys⟩:=put_any ((xs[k].f,xs[k].pc)) b _ w2 (HM1.out.mono hb2);unfold keyP at hput;have hbsz:b<w2.heap.size:=Nat.lt_of_lt_of_le (Nat.lt_of_lt_of_le hbs HBA.out.size) hb2.size;have HBU:Hid (But b wr (ChangeMaps.setBlock w2 b (.map es c))):=((But.of_below HBA.out).trans (But.of_below hb2)).trans (But.setB b w2 _);have HN:Hid (MapP (ChangeMaps.setBlock w2 b (.map es c)) b (metP (qs.take (k+1)))/\b<(ChangeMaps.setBlock w2 b (.map es c)).heap.size):=⟨⟨es,c,setB_at b w2 _ hbsz,by rw[HT.out];exact hkeys⟩,by simpa[ChangeMaps.setBlock] using hbsz⟩;have HF:Hid (Below w.heap.size w (ChangeMaps.setBlock w2 b (.map es c))):=But.below hbr HBU.out (by rw[HB.out];exact Nat.le_refl _) hbr.size;clear hkeys hb2 HC HM1 hbr hbs hbsz HBA;go_wp2_with fail
   go_roundw
   case rel=>exact⟨k+1,by omega,by go_num,HN.out.1,HN.out.2,HF.out⟩
   case measure=>simp[intOf];omega
  ·have hkl:k=xs.length:=by omega
   subst hkl;rw[<-hql,List.take_length] at hmp;have hle:=len_map b _ _ hmp;have hl2:=HO.out.2;have HBR:=hidz hbr;rw[hql] at hl2;by_cases hnd:qs.Nodup
   ·have he:(metP qs).length=xs.length:=by rw[HO.out.1.2 hnd,hql]
    rw[he] at hle;have HP:Hid (pB qs.Nodup=true):=ay hnd;clear hmp hnd he hl2 hbr;go_wp2;go_ret
    exact⟨by simp[HP.out],HBR.out⟩
   ·have he:(metP qs).length≠xs.length:=fun e=>hnd (HO.out.1.1 (by rw[e,hql]))
    have he2:(((metP qs).length:Int) == (xs.length:Int))=false:=by rw[beq_eq_false_iff_ne];omega
    have HP:Hid (pB qs.Nodup=false):=aw hnd;clear hmp hnd he hbr;go_wp2;go_ret
    exact⟨by simp[HP.out],HBR.out⟩
def fh (op kind:Int):Prop:=(kind=1/\11<=op/\op<=14)\/(kind=2/\op=23)
def FailP (fs:List Fn)(s:Si):Prop:=fh ((insD fs s.f s.pc).getD (0,0)).1 s.seen/\1<=s.target/\s.target<=1000000
theorem betweenI_any(n lo hi:Int)(w:World):Calls Tryz.prog 30 #[.int .i64 n,.int .i64 lo,.int .i64 hi] w fun e w'=>e=.returned (.bool (decide (lo<=n) && decide (n<=hi)))/\w'=w:=by
 by_cases h1:lo<=n
 ·by_cases h2:n<=hi
  all_goals
   go_enter Tryz.func30,Tryz.ntmps30
   go_wp2;go_ret
   exact⟨aj (by rw[Bool.eq_iff_iff];simp;omega),rfl⟩
 ·go_enter Tryz.func30,Tryz.ntmps30
  go_wp2;go_ret
  exact⟨aj (by rw[Bool.eq_iff_iff];simp;omega),rfl⟩
theorem fj{n lo hi:Int}(h:lo<=n/\n<=hi)(w:World):Calls Tryz.prog 30 #[.int .i64 n,.int .i64 lo,.int .i64 hi] w fun e w'=>e=.returned (.bool true)/\w'=w:=by
 have:=betweenI_any n lo hi w;rwa [decide_eq_true h.1,decide_eq_true h.2] at this
theorem fu{n lo hi:Int}(h:¬(lo<=n/\n<=hi))(w:World):Calls Tryz.prog 30 #[.int .i64 n,.int .i64 lo,.int .i64 hi] w fun e w'=>e=.returned (.bool false)/\w'=w:=by
 have:=betweenI_any n lo hi w;rwa [<-Bool.decide_and,decide_eq_false h] at this
theorem failOk_any(a1 a2:Option Addr)(nt c1 c2:Nat)(fs:List Fn)(s:Si)(w:World)(hc:∀f∈fs,f.code.length<=1048576)(hm:FnsAt w 0 a2 fs) :
  Calls Tryz.prog 69 #[.agg #[.slice a1 nt c1,.slice a2 fs.length c2],.agg #[.int .i64 s.f,.int .i64 s.pc,.int .i64 s.seen,.int .i64 s.target]] w fun e w'=>e=.returned (.bool (pB (FailP fs s)))/\Below w.heap.size w w':=by
 have HI:Hid (FailP fs s↔fh ((insD fs s.f s.pc).getD (0,0)).1 s.seen/\1<=s.target/\s.target<=1000000):=Iff.rfl;obtain⟨r,hr⟩:∃r,r=pB (FailP fs s):=⟨_,rfl⟩;rw[<-hr];have HR:Hid (r=pB (FailP fs s)):=hr;clear hr;obtain⟨sf,sp,sn,tg⟩:=s;dsimp only at *
 have hI:∀w',Below w.heap.size w w'->_:=fun w' hb=>dG a1 a2 nt c1 c2 fs sf sp w' hc (hm.mono hb)
 have HC:=hI;clear hI;obtain⟨op,hop⟩:∃op,op=((insD fs sf sp).getD (0,0)).1:=⟨_,rfl⟩;obtain⟨ar,har⟩:∃ar,ar=((insD fs sf sp).getD (0,0)).2:=⟨_,rfl⟩;obtain⟨fd,hfd⟩:∃fd,fd=(insD fs sf sp).isSome:=⟨_,rfl⟩;simp only[<-hop,<-har,<-hfd] at HC
 rw[<-hop] at HI;clear hop har hfd;obtain⟨w2,hw2⟩:∃w2,w2=(w.alloc (.cells #[.slice a1 nt c1,.slice a2 fs.length c2] 42)).alloc (.cells #[.int .i64 sf,.int .i64 sp,.int .i64 sn,.int .i64 tg] 104):=⟨_,rfl⟩;have hB:Below w.heap.size w w2:=by rw[hw2];exact (gM.alloc nL _).alloc (by simp) _
 have hX:w2.heap[w.heap.size]?=some (.cells #[.slice a1 nt c1,.slice a2 fs.length c2] 42 (0,0)):=by rw[hw2];exact al (ah _ _ _) _
 have hY:w2.heap[w.heap.size+1]?=some (.cells #[.int .i64 sf,.int .i64 sp,.int .i64 sn,.int .i64 tg] 104 (0,0)):=by rw[hw2];simpa using ah (w.alloc (.cells #[.slice a1 nt c1,.slice a2 fs.length c2] 42)) #[.int .i64 sf,.int .i64 sp,.int .i64 sn,.int .i64 tg] 104
 have HZ:Hid (w.heap.size+2<=w2.heap.size):=by rw[hw2];show _<=_;simp
 have HS:Hid (∀w',Below (w.heap.size+2) w2 w'->w'.cell? ⟨w.heap.size,0,none⟩=some (.slice a1 nt c1)/\w'.cell? ⟨w.heap.size,1,none⟩=some (.slice a2 fs.length c2)/\w'.cell? ⟨w.heap.size+1,0,none⟩=some (.int .i64 sf)/\w'.cell? ⟨w.heap.size+1,1,none⟩=some (.int .i64 sp)/\w'.cell? ⟨w.heap.size+1,2,none⟩=some (.int .i64 sn)/\w'.cell? ⟨w.heap.size+1,3,none⟩=some (.int .i64 tg)):=fun w' hb=>
  ⟨by rw[hb.cell (by simp),aa hX];rfl,by rw[hb.cell (by simp),aa hX];rfl,by rw[hb.cell (by simp),aa hY];rfl,by rw[hb.cell (by simp),aa hY];rfl,by rw[hb.cell (by simp),aa hY];rfl,by rw[hb.cell (by simp),aa hY];rfl⟩
 obtain⟨j0,j1,j2,j3,j4,j5⟩:=HS.out w2 gM;have q:Below w2.heap.size w2 w2.drew:=gM.drew;have HB:Hid (Below w.heap.size w w2):=hB;have HCH:Hid (∀w',Below w.heap.size w w'->Calls Tryz.prog 118 #[.agg #[.slice a1 nt c1,.slice a2 fs.length c2],.agg #[.int .i64 sf,.int .i64 sp]] w' fun e w''=>e=.returned (.tuple #[.agg #[.int .i64 op,.int .i64 ar],.bool fd])/\Below w'.heap.size w' w''):=HC;clear HC hB hX hY hc hm;go_enter Tryz.func69,Tryz.ntmps69
 go_upto_region 1 with fail
 rw[<-hw2];clear hw2;go_cut [5,6] from 8 to 14 (fun s5 s6 wx=>∃g,s5=.pointer (some ⟨g,0,none⟩)/\s6=.bool fd/\wx.heap[g]?=some (.cells #[.int .i64 op,.int .i64 ar] 153 (0,0))/\Below w2.heap.size w2 wx)
 case first=>
  go_region_held3 (fun w'=>w'.cell? ⟨w.heap.size,0,none⟩=some (.slice a1 nt c1)/\w'.cell? ⟨w.heap.size,1,none⟩=some (.slice a2 fs.length c2)/\w'.cell? ⟨w.heap.size+1,0,none⟩=some (.int .i64 sf)/\w'.cell? ⟨w.heap.size+1,1,none⟩=some (.int .i64 sp)/\w'.cell? ⟨w.heap.size+1,2,none⟩=some (.int .i64 sn)/\w'.cell? ⟨w.heap.size+1,3,none⟩=some (.int .i64 tg))
   (first
    | exact⟨j0,j1,j2,j3,j4,j5⟩
    | exact HS.out _ (q.mono HZ.out)
    | exact HS.out _ ((q.mono HZ.out).alloc (Nat.le_trans HZ.out q.size) _)
    | exact HS.out _ (((q.mono HZ.out).setCell (Nat.le_trans HZ.out hg) _).setCell (Nat.le_trans HZ.out hg) _)
    | exact HS.out _ ((((q.mono HZ.out).alloc (Nat.le_trans HZ.out q.size) _).setCell (Nat.le_trans HZ.out q.size) _).setCell (Nat.le_trans HZ.out q.size) _))
   (first
    | (go_at_call 68;refine (failedAt_any _ _ _ _ _).mono ?_;rintro e wa ⟨rfl,kd⟩;(first | (have hk:=ab hk kd;have hc:=aa hk;have hf:=am hk) | (have hk:=ab (aY _ _ _) kd;have hg:=Nat.le_refl w2.heap.size;have hc:=aa hk;have hf:=am hk) | (have hk:=ab (ah _ _ _) kd;have hg:=q.size;have hc:=aa hk;have hf:=am hk) | skip);(first | (have q:=q.trans (kd.mono q.size)) | (have q:=(q.alloc q.size _).trans (kd.mono (by have:=q.size;simp<;>omega)))))
    | (go_at_call 118;refine (HCH.out _ (by first | exact HB.out.trans (q.mono HB.out.size) | exact HB.out.trans ((q.alloc q.size _).mono HB.out.size))).mono ?_;rintro e wb ⟨rfl,kd⟩;(first | (have hk:=ab hk kd;have hc:=aa hk;have hf:=am hk) | (have hk:=ab (aY _ _ _) kd;have hg:=Nat.le_refl w2.heap.size;have hc:=aa hk;have hf:=am hk) | (have hk:=ab (ah _ _ _) kd;have hg:=q.size;have hc:=aa hk;have hf:=am hk) | skip);(first | (have q:=q.trans (kd.mono q.size)) | (have q:=(q.alloc q.size _).trans (kd.mono (by have:=q.size;simp<;>omega))))))
  all_goals
   go_wp2_with fail
   go_meet
   case rel=>
    first
     | exact⟨_,rfl,rfl,stored2 hk,(q.setCell hg _).setCell hg _⟩
     | exact⟨_,rfl,rfl,ah _ _ _,q.alloc q.size _⟩
 case rest=>
  obtain⟨g,rfl,rfl,hG,hq⟩:=hcut;have HB2:Hid (Below w.heap.size w wc):=HB.out.trans (hq.mono HB.out.size);have c0:=aa hG;clear j0 j1 j2 j3 j4 j5 q;obtain⟨j0,j1,j2,j3,j4,j5⟩:=HS.out wc (hq.mono HZ.out);clear HS HZ hq HB hG HCH;by_cases k1:sn=1
  ·subst k1;have HN:=hidz (cX op wc);by_cases ho:11<=op/\op<=14
   ·rw[decide_eq_true ho] at HN;have HFT:Hid (fh op 1):=.inl ⟨rfl,ho⟩;clear ho;go_wp2_with fail
    refine HN.out.mono ?_;rintro e w8 ⟨rfl,hw8⟩;rw[hw8];clear hw8 w8 HN;by_cases hb:1<=tg/\tg<=1000000
    ·have HV:Hid (r=true):=by show _=_;rw[HR.out];exact ay (HI.out.2 ⟨HFT.out,hb⟩)
     have hbc:=fj (n:=tg) (lo:=1) (hi:=1000000) hb;clear hb HFT HI;go_wp2_with fail
     refine (hbc _).mono ?_;rintro e w9 ⟨rfl,hw9⟩;rw[hw9];clear hw9 w9;go_wp2;go_ret
     exact⟨aj (by rw[HV.out]),HB2.out⟩
    ·have HV:Hid (r=false):=by show _=_;rw[HR.out];exact aw (fun h=>hb (HI.out.1 h).2)
     have hbc:=fu (n:=tg) (lo:=1) (hi:=1000000) hb;clear hb HFT HI;go_wp2_with fail
     refine (hbc _).mono ?_;rintro e w9 ⟨rfl,hw9⟩;rw[hw9];clear hw9 w9;go_wp2;go_ret
     exact⟨aj (by rw[HV.out]),HB2.out⟩
   ·rw[decide_eq_false ho] at HN;have HNF:Hid (¬fh op 1):=fun h=>by rcases h with h | h;exact ho h.2;exact absurd h.1 (by decide)
    clear ho;go_wp2_with fail
    refine HN.out.mono ?_;rintro e w8 ⟨rfl,hw8⟩;rw[hw8];clear hw8 w8 HN;have HV:Hid (r=false):=by show _=_;rw[HR.out];exact aw (fun h=>HNF.out (HI.out.1 h).1)
    clear HNF HI;go_wp2;go_ret
    exact⟨aj (by rw[HV.out]),HB2.out⟩
  ·have e1:(sn == 1)=false:=beq_eq_false_iff_ne.2 k1;by_cases k2:sn=2
   ·subst k2;by_cases ho:op=23
    ·subst ho;have HFT:Hid (fh 23 2):=.inr ⟨rfl,rfl⟩;clear k1;by_cases hb:1<=tg/\tg<=1000000
     ·have HV:Hid (r=true):=by show _=_;rw[HR.out];exact ay (HI.out.2 ⟨HFT.out,hb⟩)
      have hbc:=fj (n:=tg) (lo:=1) (hi:=1000000) hb;clear hb HFT HI;go_wp2_with fail
      refine (hbc _).mono ?_;rintro e w9 ⟨rfl,hw9⟩;rw[hw9];clear hw9 w9;go_wp2;go_ret
      exact⟨aj (by rw[HV.out]),HB2.out⟩
     ·have HV:Hid (r=false):=by show _=_;rw[HR.out];exact aw (fun h=>hb (HI.out.1 h).2)
      have hbc:=fu (n:=tg) (lo:=1) (hi:=1000000) hb;clear hb HFT HI;go_wp2_with fail
      refine (hbc _).mono ?_;rintro e w9 ⟨rfl,hw9⟩;rw[hw9];clear hw9 w9;go_wp2;go_ret
      exact⟨aj (by rw[HV.out]),HB2.out⟩
    ·have e3:(op == 23)=false:=beq_eq_false_iff_ne.2 ho;have HNF:Hid (¬fh op 2):=fun h=>by rcases h with h | h;exact absurd h.1 (by decide);exact ho h.2
     clear ho k1;have HV:Hid (r=false):=by show _=_;rw[HR.out];exact aw (fun h=>HNF.out (HI.out.1 h).1)
     clear HNF HI;go_wp2;go_ret
     exact⟨aj (by rw[HV.out]),HB2.out⟩
   ·have e2:(sn == 2)=false:=beq_eq_false_iff_ne.2 k2;have HNF:Hid (¬fh op sn):=fun h=>by rcases h with h | h;exact k1 h.1;exact k2 h.1
    clear k1 k2;have HV:Hid (r=false):=by show _=_;rw[HR.out];exact aw (fun h=>HNF.out (HI.out.1 h).1)
    clear HNF HI;go_wp2;go_ret
    exact⟨aj (by rw[HV.out]),HB2.out⟩
def inR (n:Int):Prop:=-9223372036854775808<=n/\n<=9223372036854775807
def sumC (fls:List Si):Int:=(fls.map (·.target)).sum
theorem sumC_succ(fls:List Si)(k:Nat)(h:k<fls.length):sumC (fls.take (k+1))=sumC (fls.take k)+fls[k].target:=by
 unfold sumC;rw[List.take_succ_eq_append_getElem h,List.map_append,List.sum_append];simp
theorem eY(fs:List Fn):∀(fls:List Si),(∀x∈fls,FailP fs x)->0<=sumC fls/\sumC fls<=1000000*fls.length
 | [],_=>by simp[sumC]
 | x :: l,h=>by
  have h1:=eY fs l (fun y hy=>h y (List.mem_cons_of_mem _ hy));have h2:=(h x List.mem_cons_self).2;have e:sumC (x :: l)=x.target+sumC l:=by simp[sumC]
  rw[e];simp only[List.length_cons]
  omega
def ex (fs:List Fn)(fls:List Si)(g:Int):Prop:=fls.length<=150/\(fls.map fun x=>((x.f,x.pc):Int×Int)).Nodup/\(∀x∈fls,FailP fs x)/\g=sumC fls
theorem wrap_sub(a c:Int):wrap64 (wrap64 a-c)=wrap64 (a-c):=by
 unfold wrap64;omega
theorem wrap_zero(g s:Int)(hg:inR g)(hs:0<=s/\s<=1000000000):wrap64 (g-s)=0↔g=s:=by
 unfold wrap64;unfold inR at hg;omega
theorem wrap_in(g:Int)(hg:inR g):wrap64 (g-0)=g:=by
 unfold wrap64;unfold inR at hg;omega
theorem failsOk_any(a1 a2:Option Addr)(nt c1 c2:Nat)(fs:List Fn)(a:Option Addr)(fls:List Si)(cap:Nat)(g:Int)(w:World)(hc:∀f∈fs,f.code.length<=1048576)(hm:FnsAt w 0 a2 fs)(hn:fls.length<=1048576)(hs:aS w 0 a fls)(hg:inR g) :
  Calls Tryz.prog 29 #[.agg #[.slice a1 nt c1,.slice a2 fs.length c2],.slice a fls.length cap,.int .i64 g] w fun e w'=>e=.returned (.bool (pB (ex fs fls g)))/\Below w.heap.size w w':=by
 obtain⟨r,hr⟩:∃r,r=pB (ex fs fls g):=⟨_,rfl⟩;rw[<-hr];have HR:Hid (r=pB (ex fs fls g)):=hr;clear hr;obtain⟨W,hW⟩:∃W,W=w.alloc (.cells #[.slice a1 nt c1,.slice a2 fs.length c2] 42):=⟨_,rfl⟩;have hbW:Below w.heap.size w W:=by rw[hW];exact gM.alloc nL _
 have hX:W.heap[w.heap.size]?=some (.cells #[.slice a1 nt c1,.slice a2 fs.length c2] 42 (0,0)):=by rw[hW];exact ah _ _ _
 by_cases h150:150<fls.length
 ·have HV:Hid (r=false):=by show _=_;rw[HR.out];exact aw (fun h=>by have:=h.1;omega)
  have h150':(150:Int)<(fls.length:Int):=by omega
  have HB:=hidz hbW;clear h150 hbW hX hg hs hm hc;go_enter Tryz.func29,Tryz.ntmps29
  go_upto_region 1 with fail
  rw[<-hW];clear hW;go_wp2;go_ret
  exact⟨aj (by rw[HV.out]),HB.out⟩
 have h150':¬(150:Int)<(fls.length:Int):=by omega
 have HO:=hidz (onceF_any a fls cap W hn (hs.mono hbW));have HS:=hidz hs;have HM:=hidz hm;have HC:=hidz hc;have HG:=hidz hg;have HB:=hidz hbW;have HX:=hidz hX;clear hs hm hc hg hbW hX;by_cases hnd:(fls.map fun x=>((x.f,x.pc):Int×Int)).Nodup
 case neg=>
  have HV:Hid (r=false):=by show _=_;rw[HR.out];exact aw (fun h=>hnd h.2.1)
  rw[aw hnd] at HO;clear hnd h150;go_enter Tryz.func29,Tryz.ntmps29
  go_upto_region 1 with fail
  rw[<-hW];clear hW;go_wp2_with fail
  refine HO.out.mono ?_;rintro e w1 ⟨rfl,hb1⟩;have hB:=HB.out.trans (hb1.mono HB.out.size);clear hb1 HO;go_wp2;go_ret
  exact⟨aj (by rw[HV.out]),hB⟩
 have HND:=hidz hnd;rw[ay hnd] at HO;clear hnd;go_enter Tryz.func29,Tryz.ntmps29
 go_upto_region 1 with fail
 rw[<-hW];clear hW;go_wp2_with fail
 refine HO.out.mono ?_;rintro e w1 ⟨rfl,hb1⟩;have hB1:=HB.out.trans (hb1.mono HB.out.size);have HX1:=hidz (ab HX.out hb1);have HB1:=hidz hB1;have HG0:Hid (wrap64 (g-sumC (fls.take 0))=g):=wrap_in g HG.out;clear hb1 HO HX HB hB1;go_wp2_with fail
 go_loopw [2,8,19] (fun gk _bx i wr=>∃(k:Nat),k<=fls.length/\i=.int .i64 k/\gk=.int .i64 (wrap64 (g-sumC (fls.take k)))/\Hid (∀x∈fls.take k,FailP fs x)/\Below w1.heap.size w1 wr) (fun _ _ i _=>fls.length-(intOf i).toNat)
 case atStart=>exact⟨0,by omega,rfl,by rw[HG0.out],(by intro f hf;simp at hf),Below.refl _ _⟩
 case round=>
  obtain⟨k,hk,rfl,rfl,hall,hbr⟩:=hrel;have HBR:=hidz (HB1.out.trans (hbr.mono HB1.out.size));by_cases hlt:k<fls.length
  ·obtain⟨b,off,rfl,-,d0,d1,d2,d3⟩:=(HS.out.mono HBR.out) k hlt;obtain⟨wA,hwA⟩:∃wA,wA=wr.alloc (.cells #[.int .i64 fls[k].f,.int .i64 fls[k].pc,.int .i64 fls[k].seen,.int .i64 fls[k].target] 104):=⟨_,rfl⟩;have hbA:Below wr.heap.size wr wA:=by rw[hwA];exact gM.alloc nL _
   have hYA:wA.heap[wr.heap.size]?=some (.cells #[.int .i64 fls[k].f,.int .i64 fls[k].pc,.int .i64 fls[k].seen,.int .i64 fls[k].target] 104 (0,0)):=by rw[hwA];exact ah _ _ _
   have hXA:=ab (ab HX1.out hbr) hbA;have hBA:=HBR.out.trans (hbA.mono HBR.out.size);have HCL:=hidz (failOk_any a1 a2 nt c1 c2 fs fls[k] wA HC.out (HM.out.mono hBA));have HIN:Hid (fls[k]∈fls):=n_l hlt;have HT:Hid (FailP fs fls[k]->∀x∈fls.take (k+1),FailP fs x):=fun h=>aP (p:=FailP fs) hlt hall.out h
   have HSU:Hid (sumC (fls.take (k+1))=sumC (fls.take k)+fls[k].target):=sumC_succ _ _ hlt;obtain⟨S,hS⟩:∃S,S=sumC (fls.take k):=⟨_,rfl⟩;rw[<-hS] at HSU ⊢;obtain⟨y,hy⟩:∃y,y=fls[k]:=⟨_,rfl⟩;rw[<-hy] at d0 d1 d2 d3 hwA hYA HCL HIN HT HSU;have x0:=aa hXA;have y0:=aa hYA;have HXA:=hidz hXA;have HYA:=hidz hYA;have HBA:=hidz hBA;have HBB:=hidz (hbr.trans (hbA.mono hbr.size));have HW:=hidz hwA;clear hS hy hwA hYA hXA hbA hBA hbr;go_upto_region 6 with fail
   rw[<-HW.out];clear HW d0 d1 d2 d3;go_wp2_with fail
   refine HCL.out.mono ?_;rintro e w2 ⟨rfl,hb2⟩;have y2:=aa (ab HYA.out hb2);have HF:=hidz (HBB.out.trans (hb2.mono HBB.out.size));have HFB:=hidz (HBA.out.trans (hb2.mono HBA.out.size));clear hb2 HCL x0 y0 HXA HYA HBA HBB;by_cases hf:FailP fs y
   ·rw[ay hf];have HOK:=hidz (HT.out hf);clear hf HT;go_wp2;go_roundw
    case rel=>exact⟨k+1,by omega,by go_num,(by show Value.int .i64 (wrap64 (wrap64 (g-S)-y.target))=_;rw[HSU.out,wrap_sub,show g-S-y.target=g-(S+y.target) by omega]),HOK.out,HF.out⟩
    case measure=>simp[intOf];omega
   ·rw[aw hf];have HV:Hid (r=false):=by show _=_;rw[HR.out];exact aw (fun h=>hf (h.2.2.1 _ HIN.out))
    clear hf HT;go_wp2;go_ret
    exact⟨aj (by rw[HV.out]),HFB.out⟩
  ·have HE:Hid (∀x∈fls,FailP fs x):=by
    have:=hall.out;rwa [List.take_of_length_le (by omega)] at this
   rw[List.take_of_length_le (by omega)];have hsf:=eY fs fls HE.out;have hwz:=wrap_zero g (sumC fls) HG.out (by omega);by_cases he:g=sumC fls
   ·have HV:Hid (r=true):=by show _=_;rw[HR.out];exact ay ⟨by omega,HND.out,HE.out,he⟩
    have hz:wrap64 (g-sumC fls)=0:=hwz.2 he;rw[hz];clear he hwz hsf hz;go_wp2;go_ret
    exact⟨aj (by rw[HV.out]),HBR.out⟩
   ·have HV:Hid (r=false):=by show _=_;rw[HR.out];exact aw (fun h=>he h.2.2.2)
    have hz:(wrap64 (g-sumC fls) == 0)=false:=beq_eq_false_iff_ne.2 (fun e=>he (hwz.1 e));generalize wrap64 (g-sumC fls)=z at *
    clear he hwz hsf;go_wp2;go_ret
    exact⟨aj (by rw[HV.out]),HBR.out⟩
theorem comes_any(x0 x1 x2 x3 x4 f p x7 x8:Int)(s:ByteArray)(w:World) :
  Calls Tryz.prog 187 #[.agg #[.int .i64 x0,.int .i64 x1,.int .i64 x2,.int .i64 x3,.int .i64 x4,.int .i64 f,.int .i64 p,.int .i64 x7,.int .i64 x8,.string s]] w fun e w'=>e=.returned (.agg #[.int .i64 f,.int .i64 p])/\Below w.heap.size w w':=by
 go_enter Tryz.func187,Tryz.ntmps187
 go_wp2;refine bodyPost_ret (v:=.agg #[.int .i64 f,.int .i64 p]) (by simp[results,Tryz.results187,go_sem]) rfl ⟨rfl,(gM.alloc nL _).alloc (by simp) _⟩
section
variable {fs:List Fn} {D:aH} {a1 a2 oa ea:Option Addr} {nt c1 c2 oc ec G base K:Nat} {w:World}
theorem at_sh{w:World}(h:ShAt w){o:Nat}(ho:o<30):w.cell? ⟨0,o*5,none⟩=some (.int .i64 (sh o 0:Nat))/\w.cell? ⟨0,o*5+1,none⟩=some (.int .i64 (sh o 1:Nat))/\w.cell? ⟨0,o*5+2,none⟩=some (.int .i64 (sh o 2:Nat))/\w.cell? ⟨0,o*5+3,none⟩=some (.int .i64 (sh o 3:Nat))/\w.cell? ⟨0,o*5+4,none⟩=some (.int .i64 (sh o 4:Nat)):=
 ⟨h o 0 ho (by decide),h o 1 ho (by decide),h o 2 ho (by decide),h o 3 ho (by decide),h o 4 ho (by decide)⟩
theorem opOk_any(at':Int)(x:Fo)(hs:x.v.s.size<=1048576)(h:Look fs D a1 a2 oa ea nt c1 c2 oc ec G base K w)(lim:Lim fs D) :
  Calls Tryz.prog 163 #[.pointer (some ⟨K,0,none⟩),.int .i64 at',.agg #[.int .i64 x.op,.int .i64 x.d,.int .i64 x.a,.int .i64 x.b,.int .i64 x.x,.int .i64 x.f,.int .i64 x.p,.int .i64 x.v.k,.int .i64 x.v.n,.string x.v.s]] w fun e w'=>e=.returned (.bool (pB (FopP fs D at' x)))/\Below w.heap.size w w':=by
 obtain⟨wA,hwA⟩:∃wA,wA=w.alloc (.cells #[.int .i64 x.op,.int .i64 x.d,.int .i64 x.a,.int .i64 x.b,.int .i64 x.x,.int .i64 x.f,.int .i64 x.p,.int .i64 x.v.k,.int .i64 x.v.n,.string x.v.s] 177):=⟨_,rfl⟩;have hbA:Below w.heap.size w wA:=by rw[hwA];exact gM.alloc nL _
 have hX:wA.heap[w.heap.size]?=some (.cells #[.int .i64 x.op,.int .i64 x.d,.int .i64 x.a,.int .i64 x.b,.int .i64 x.x,.int .i64 x.f,.int .i64 x.p,.int .i64 x.v.k,.int .i64 x.v.n,.string x.v.s] 177 (0,0)):=by rw[hwA];exact ah _ _ _
 have hk:=h.mono hbA;have HL:=lim.code;have HB:Hid (Below w.heap.size w wA):=hbA;by_cases hop:Btw x.op 1 29
 case neg=>
  have hB:pB (Btw x.op 1 29)=false:=aw hop;have HN:Hid (¬Btw x.op 1 29):=hop;clear hop;go_enter Tryz.func163,Tryz.ntmps163
  go_wp2_with (go_at_call 30;refine (bd _ _ _ _).mono ?_;rintro e w1 ⟨rfl,hw⟩;rw[hw,hB];clear hw w1)
  go_ret
  exact⟨aj (aw (fun q=>HN.out q.1)).symm,gM.alloc nL _⟩
 have hB:pB (Btw x.op 1 29)=true:=ay hop;obtain⟨o,ho⟩:∃o:Nat,x.op=o:=⟨x.op.toNat,by have:=hop.1;omega⟩;have ho1:o<30:=by have:=hop.2;omega
 have ho2:(o:Int)<30:=by omega
 have HOP:Hid (Btw x.op 1 29):=hop;have HO:Hid (x.op.toNat=o):=by show _=_;omega
 have HOE:Hid (x.op=(o:Int)):=ho;clear hop ho;have HS:Hid (∀w',Below wA.heap.size wA w'->w'.cell? ⟨K,0,none⟩=some (.slice a1 nt c1)/\w'.cell? ⟨K,1,none⟩=some (.slice a2 fs.length c2)/\w'.cell? ⟨w.heap.size,0,none⟩=some (.int .i64 x.op)/\w'.cell? ⟨w.heap.size,1,none⟩=some (.int .i64 x.d)/\w'.cell? ⟨w.heap.size,2,none⟩=some (.int .i64 x.a)/\w'.cell? ⟨w.heap.size,3,none⟩=some (.int .i64 x.b)/\w'.cell? ⟨w.heap.size,4,none⟩=some (.int .i64 x.x)/\w'.cell? ⟨w.heap.size,5,none⟩=some (.int .i64 x.f)/\w'.cell? ⟨w.heap.size,6,none⟩=some (.int .i64 x.p)/\w'.cell? ⟨w.heap.size,7,none⟩=some (.int .i64 x.v.k)/\w'.cell? ⟨w.heap.size,8,none⟩=some (.int .i64 x.v.n)/\w'.cell? ⟨w.heap.size,9,none⟩=some (.string x.v.s)):=fun w' q=>⟨(hk.mono q).cells 0,(hk.mono q).cells 1,aa (ab hX q) 0,aa (ab hX q) 1,aa (ab hX q) 2,aa (ab hX q) 3,aa (ab hX q) 4,aa (ab hX q) 5,aa (ab hX q) 6,aa (ab hX q) 7,aa (ab hX q) 8,aa (ab hX q) 9⟩
 obtain⟨j0,j1,j2,j3,j4,j5,j6,j7,j8,j9,j10,j11⟩:=HS.out wA gM;have q:Below wA.heap.size wA wA.drew:=gM.drew;have HI:Hid (∀w',Below wA.heap.size wA w'->Calls Tryz.prog 118 #[.agg #[.slice a1 nt c1,.slice a2 fs.length c2],.agg #[.int .i64 x.f,.int .i64 x.p]] w' fun e w''=>e=.returned (.tuple #[.agg #[.int .i64 ((insD fs x.f x.p).getD (0,0)).1,.int .i64 ((insD fs x.f x.p).getD (0,0)).2],.bool (insD fs x.f x.p).isSome])/\Below w'.heap.size w' w''):=fun w' q=>dG a1 a2 nt c1 c2 fs x.f x.p w' HL (hk.fns.mono q)
 have HC:Hid (∀w':World,Calls Tryz.prog 187 #[.agg #[.int .i64 x.op,.int .i64 x.d,.int .i64 x.a,.int .i64 x.b,.int .i64 x.x,.int .i64 x.f,.int .i64 x.p,.int .i64 x.v.k,.int .i64 x.v.n,.string x.v.s]] w' fun e w''=>e=.returned (.agg #[.int .i64 x.f,.int .i64 x.p])/\Below w'.heap.size w' w''):=fun w'=>comes_any _ _ _ _ _ _ _ _ _ _ w'
 have HK:Hid (Look fs D a1 a2 oa ea nt c1 c2 oc ec G base K wA):=hk;have HX:Hid (wA.heap[w.heap.size]?=some (.cells #[.int .i64 x.op,.int .i64 x.d,.int .i64 x.a,.int .i64 x.b,.int .i64 x.x,.int .i64 x.f,.int .i64 x.p,.int .i64 x.v.k,.int .i64 x.v.n,.string x.v.s] 177 (0,0))):=hX;clear hk hX hbA h HL;obtain⟨u1,hu1⟩:∃u1,u1=((insD fs x.f x.p).getD (0,0)).1:=⟨_,rfl⟩;obtain⟨u2,hu2⟩:∃u2,u2=((insD fs x.f x.p).getD (0,0)).2:=⟨_,rfl⟩;obtain⟨ib,hib⟩:∃ib,ib=(insD fs x.f x.p).isSome:=⟨_,rfl⟩;rw[<-hu1,<-hu2,<-hib] at HI;have HIB:Hid (ib=(insD fs x.f x.p).isSome):=hib;clear hu1 hu2 hib;go_enter Tryz.func163,Tryz.ntmps163
 go_upto_region 3 with (go_at_call 30;refine (bd _ _ _ _).mono ?_;rintro e w1 ⟨rfl,hw⟩;rw[hw,hB];clear hw w1)
 rw[<-hwA];clear hwA hB;go_cut [8] from 14 to 26 (fun s8 wx=>s8=.bool ib/\Below wA.heap.size wA wx)
 case first=>
  go_region_held3 (fun w'=>w'.cell? ⟨K,0,none⟩=some (.slice a1 nt c1)/\w'.cell? ⟨K,1,none⟩=some (.slice a2 fs.length c2)/\w'.cell? ⟨w.heap.size,0,none⟩=some (.int .i64 x.op)/\w'.cell? ⟨w.heap.size,1,none⟩=some (.int .i64 x.d)/\w'.cell? ⟨w.heap.size,2,none⟩=some (.int .i64 x.a)/\w'.cell? ⟨w.heap.size,3,none⟩=some (.int .i64 x.b)/\w'.cell? ⟨w.heap.size,4,none⟩=some (.int .i64 x.x)/\w'.cell? ⟨w.heap.size,5,none⟩=some (.int .i64 x.f)/\w'.cell? ⟨w.heap.size,6,none⟩=some (.int .i64 x.p)/\w'.cell? ⟨w.heap.size,7,none⟩=some (.int .i64 x.v.k)/\w'.cell? ⟨w.heap.size,8,none⟩=some (.int .i64 x.v.n)/\w'.cell? ⟨w.heap.size,9,none⟩=some (.string x.v.s))
   (first
    | exact⟨j0,j1,j2,j3,j4,j5,j6,j7,j8,j9,j10,j11⟩
    | exact HS.out _ q
    | exact HS.out _ (q.alloc q.size _)
    | exact HS.out _ ((q.setCell hg _).setCell hg _)
    | exact HS.out _ (((q.alloc q.size _).setCell q.size _).setCell q.size _))
   (first
    | (go_at_call 187;refine (HC.out _).mono ?_;rintro e wb ⟨rfl,kd⟩;(first | (have hk:=ab hk kd;have hc:=aa hk;have hf:=am hk) | (have hk:=ab (aY _ _ _) kd;have hg:=Nat.le_refl wA.heap.size;have hc:=aa hk;have hf:=am hk) | (have hk:=ab (ah _ _ _) kd;have hg:=q.size;have hc:=aa hk;have hf:=am hk) | skip);(first | (have q:=q.trans (kd.mono q.size)) | (have q:=(q.alloc q.size _).trans (kd.mono (by have:=q.size;simp<;>omega)))))
    | (go_at_call 118;refine (HI.out _ (by first | exact q | exact q.alloc q.size _)).mono ?_;rintro e wb ⟨rfl,kd⟩;(first | (have hk:=ab hk kd;have hc:=aa hk;have hf:=am hk) | (have hk:=ab (aY _ _ _) kd;have hg:=Nat.le_refl wA.heap.size;have hc:=aa hk;have hf:=am hk) | (have hk:=ab (ah _ _ _) kd;have hg:=q.size;have hc:=aa hk;have hf:=am hk) | skip);(first | (have q:=q.trans (kd.mono q.size)) | (have q:=(q.alloc q.size _).trans (kd.mono (by have:=q.size;simp<;>omega))))))
  all_goals
   go_wp2_with fail
   go_meet
   case rel=>
    first
     | exact⟨rfl,(q.setCell hg _).setCell hg _⟩
     | exact⟨rfl,q.alloc q.size _⟩
 case rest=>
  obtain⟨rfl,hq⟩:=hcut;have HB2:Hid (Below w.heap.size w wc):=HB.out.trans (hq.mono HB.out.size);have HK2:Hid (Look fs D a1 a2 oa ea nt c1 c2 oc ec G base K wc):=HK.out.mono hq;have hX2:=ab HX.out hq;clear HS HI HK HX HC j0 j1 j2 j3 j4 j5 j6 j7 j8 j9 j10 j11 q hq HB
  cases ib
  ·go_wp2;go_ret
   exact⟨aj (aw (fun q=>by have:=HIB.out;rw[q.2.1] at this;cases this)).symm,HB2.out⟩
  obtain⟨s0,s1,s2,s3,s4⟩:=at_sh HK2.out.shp ho1;have l0:=sh_le o ho1 0 (by decide);have l1:=sh_le o ho1 1 (by decide);have l2:=sh_le o ho1 2 (by decide);have l3:=sh_le o ho1 3 (by decide);have HP:Hid (FopP fs D at' x↔aA fs.length D at' (sh o 0) x.d/\aA fs.length D at' (sh o 1) x.a/\aA fs.length D at' (sh o 2) x.b/\aA fs.length D at' (sh o 3) x.x/\a6 fs.length (sh o 4) x.v):=by
   show _↔_
   unfold FopP;rw[HO.out];exact⟨fun q=>q.2.2,fun q=>⟨HOP.out,HIB.out.symm,q⟩⟩
  obtain⟨wS,hwS⟩:∃wS,wS=wc.alloc (.cells #[.int .i64 (sh o 0:Nat),.int .i64 (sh o 1:Nat),.int .i64 (sh o 2:Nat),.int .i64 (sh o 3:Nat),.int .i64 (sh o 4:Nat)] 301):=⟨_,rfl⟩;have hS1:wS.heap[wc.heap.size]?=some (.cells #[.int .i64 (sh o 0:Nat),.int .i64 (sh o 1:Nat),.int .i64 (sh o 2:Nat),.int .i64 (sh o 3:Nat),.int .i64 (sh o 4:Nat)] 301 (0,0)):=by rw[hwS];exact ah _ _ _
  have hbS:Below wc.heap.size wc wS:=by rw[hwS];exact gM.alloc nL _
  have hX3:=ab hX2 hbS;have HK3:Hid (Look fs D a1 a2 oa ea nt c1 c2 oc ec G base K wS):=HK2.out.mono hbS;have HB3:Hid (Below w.heap.size w wS):=HB2.out.trans (hbS.mono HB2.out.size);have x2:=aa hX2;rw[HOE.out] at x2;have x3:=aa (al hX2 (.cells #[.int .i64 (sh o 0:Nat),.int .i64 (sh o 1:Nat),.int .i64 (sh o 2:Nat),.int .i64 (sh o 3:Nat),.int .i64 (sh o 4:Nat)] 301));clear HIB HOP HO;go_wp2_with fail
  rw[<-hwS];clear hwS s0 s1 s2 s3 s4 x2 x3 hX2 HK2 hbS HB2;refine (dh at' x.d (sh o 0) l0 HK3.out).mono ?_;rintro e w0 ⟨rfl,hb⟩;have HK4:Hid (Look fs D a1 a2 oa ea nt c1 c2 oc ec G base K w0):=HK3.out.mono hb;have HB4:Hid (Below w.heap.size w w0):=HB3.out.trans (hb.mono HB3.out.size);have hX4:=ab hX3 hb;have hS2:=ab hS1 hb;clear HK3 HB3 hX3 hS1 hb;by_cases hp0:aA fs.length D at' (sh o 0) x.d
  case neg=>
   rw[aw hp0];have HN:Hid (¬aA fs.length D at' (sh o 0) x.d):=hp0;clear hp0;go_wp2;go_ret
   exact⟨aj (aw (fun q=>HN.out (HP.out.1 q).1)).symm,HB4.out⟩
  rw[ay hp0];have HP0:Hid (aA fs.length D at' (sh o 0) x.d):=hp0;clear hp0;have y4:=aa hX4;have z4:=aa hS2;go_wp2_with fail
  clear y4 z4;refine (dh at' x.a (sh o 1) l1 HK4.out).mono ?_;rintro e w1 ⟨rfl,hb⟩;have HK5:Hid (Look fs D a1 a2 oa ea nt c1 c2 oc ec G base K w1):=HK4.out.mono hb;have HB5:Hid (Below w.heap.size w w1):=HB4.out.trans (hb.mono HB4.out.size);have hX5:=ab hX4 hb;have hS3:=ab hS2 hb;clear HK4 HB4 hX4 hS2 hb;by_cases hp1:aA fs.length D at' (sh o 1) x.a
  case neg=>
   rw[aw hp1];have HN:Hid (¬aA fs.length D at' (sh o 1) x.a):=hp1;clear hp1;go_wp2;go_ret
   exact⟨aj (aw (fun q=>HN.out (HP.out.1 q).2.1)).symm,HB5.out⟩
  rw[ay hp1];have HP1:Hid (aA fs.length D at' (sh o 1) x.a):=hp1;clear hp1;have y5:=aa hX5;have z5:=aa hS3;go_wp2_with fail
  clear y5 z5;refine (dh at' x.b (sh o 2) l2 HK5.out).mono ?_;rintro e w2 ⟨rfl,hb⟩;have HK6:Hid (Look fs D a1 a2 oa ea nt c1 c2 oc ec G base K w2):=HK5.out.mono hb;have HB6:Hid (Below w.heap.size w w2):=HB5.out.trans (hb.mono HB5.out.size);have hX6:=ab hX5 hb;have hS4:=ab hS3 hb;clear HK5 HB5 hX5 hS3 hb;by_cases hp2:aA fs.length D at' (sh o 2) x.b
  case neg=>
   rw[aw hp2];have HN:Hid (¬aA fs.length D at' (sh o 2) x.b):=hp2;clear hp2;go_wp2;go_ret
   exact⟨aj (aw (fun q=>HN.out (HP.out.1 q).2.2.1)).symm,HB6.out⟩
  rw[ay hp2];have HP2:Hid (aA fs.length D at' (sh o 2) x.b):=hp2;clear hp2;have y6:=aa hX6;have z6:=aa hS4;go_wp2_with fail
  clear y6 z6;refine (dh at' x.x (sh o 3) l3 HK6.out).mono ?_;rintro e w3 ⟨rfl,hb⟩;have HK7:Hid (Look fs D a1 a2 oa ea nt c1 c2 oc ec G base K w3):=HK6.out.mono hb;have HB7:Hid (Below w.heap.size w w3):=HB6.out.trans (hb.mono HB6.out.size);have hX7:=ab hX6 hb;have hS5:=ab hS4 hb;clear HK6 HB6 hX6 hS4 hb;by_cases hp3:aA fs.length D at' (sh o 3) x.x
  case neg=>
   rw[aw hp3];have HN:Hid (¬aA fs.length D at' (sh o 3) x.x):=hp3;clear hp3;go_wp2;go_ret
   exact⟨aj (aw (fun q=>HN.out (HP.out.1 q).2.2.2.1)).symm,HB7.out⟩
  rw[ay hp3];have HP3:Hid (aA fs.length D at' (sh o 3) x.x):=hp3;clear hp3;have y7:=aa hX7;have z7:=aa hS5;go_wp2_with fail
  clear y7 z7;refine (constantOk_any x.v (sh o 4) hs HK7.out).mono ?_;rintro e w5 ⟨rfl,hb⟩;have HB9:Hid (Below w.heap.size w w5):=HB7.out.trans (hb.mono HB7.out.size);go_wp2;go_ret
  refine⟨bx ?_,HB9.out⟩;rw[HP.out];constructor
  ·intro q;exact⟨HP0.out,HP1.out,HP2.out,HP3.out,Classical.byContradiction (fun q'=>by rw[aw q'] at q;cases q)⟩
  ·intro q;exact ay q.2.2.2.2
end
structure TrD where
 vm:VmD
 sites:List Si
 codes:List aH
 fails:List Si
 guards:Int
 entered:Int
def bD (fa ha oa:Option Addr)(fc hc oc:Nat)(sa:Option Addr)(sc:Nat)(ca:Option Addr)(cc:Nat)(la:Option Addr)(lc:Nat)(D:TrD):Array Value:=#[.slice fa D.vm.frames.length fc,.slice ha D.vm.heap.length hc,.int .i64 D.vm.made,.slice oa D.vm.out.length oc,.int .i64 D.vm.status,.int .i64 D.vm.trap,.int .i64 D.vm.value.k,.int .i64 D.vm.value.n,.string D.vm.value.s,.int .i64 D.vm.steps,.slice sa D.sites.length sc,.slice ca D.codes.length cc,.slice la D.fails.length lc,.int .i64 D.guards,.int .i64 D.entered]
structure TrMax (D:TrD):Prop where
 vm:VmMax D.vm
 sites:D.sites.length<=maxLen
 codes:LMax dJ D.codes
 fails:D.fails.length<=maxLen
structure cC (D:TrD):Prop where
 vm:bU D.vm
 sites:D.sites.length<=1048576
 codes:aU bK D.codes
 fails:D.fails.length<=1048576
 much:LM ft D.codes<=1048576
structure TrAt (w:World)(lo:Nat)(fa ha oa sa ca la:Option Addr)(D:TrD):Prop where
 vm:VmAt w lo fa ha oa D.vm
 sites:aS w lo sa D.sites
 codes:cH w lo ca D.codes
 fails:aS w lo la D.fails
theorem TrAt.mono{w w':World}{lo:Nat}{fa ha oa sa ca la:Option Addr}{D:TrD}(h:TrAt w lo fa ha oa sa ca la D)(hb:Below w.heap.size w w'):TrAt w' lo fa ha oa sa ca la D:=⟨h.vm.mono hb,h.sites.mono hb,h.codes.mono hb,h.fails.mono hb⟩
def QB (w:World)(lo g t n:Nat):Prop:=lo<=g/\∃cur:Array Value,w.heap[g]?=some (.cells cur t (0,0))/\cur.size=n*4
theorem QB.mono{w w':World}{lo g t n:Nat}(h:QB w lo g t n)(hb:Below w.heap.size w w'):QB w' lo g t n:=by
 obtain⟨h1,c,h2,h3⟩:=h;exact⟨h1,c,ab h2 hb,h3⟩
theorem QB.above{w w':World}{lo g t n:Nat}(h:QB w lo g t n)(hb:aL lo w w'):QB w' lo g t n:=by
 obtain⟨h1,c,h2,h3⟩:=h;exact⟨h1,c,by rw[hb g h1 (aq h2)];exact h2,h3⟩
theorem QB.low{w:World}{lo lo' g t n:Nat}(h:QB w lo g t n)(hl:lo'<=lo):QB w lo' g t n:=⟨Nat.le_trans hl h.1,h.2⟩
structure TrB (w:World)(lo:Nat)(g g2 g3 g4 g5 g6:Nat)(D:TrD):Prop where
 vm:VmB w lo (some ⟨g,0,none⟩) (some ⟨g2,0,none⟩) (some ⟨g3,0,none⟩) D.vm
 sites:aS w lo (some ⟨g4,0,none⟩) D.sites
 sblk:QB w lo g4 113 D.sites.length
 codes:FaY w lo (some ⟨g5,0,none⟩) D.codes
 fails:aS w lo (some ⟨g6,0,none⟩) D.fails
 fblk:QB w lo g6 104 D.fails.length
theorem TrB.at{w:World}{lo:Nat}{g g2 g3 g4 g5 g6:Nat}{D:TrD}(h:TrB w lo g g2 g3 g4 g5 g6 D):TrAt w lo (some ⟨g,0,none⟩) (some ⟨g2,0,none⟩) (some ⟨g3,0,none⟩) (some ⟨g4,0,none⟩) (some ⟨g5,0,none⟩) (some ⟨g6,0,none⟩) D:=⟨h.vm.at,h.sites,h.codes.at_,h.fails⟩
theorem TrB.low{w:World}{lo lo':Nat}{g g2 g3 g4 g5 g6:Nat}{D:TrD}(h:TrB w lo g g2 g3 g4 g5 g6 D)(hl:lo'<=lo):TrB w lo' g g2 g3 g4 g5 g6 D:=⟨h.vm.low hl,h.sites.low hl,h.sblk.low hl,h.codes.low hl,h.fails.low hl,h.fblk.low hl⟩
theorem szTier_m(fa ha oa:Option Addr)(fc hc oc:Nat)(sa:Option Addr)(sc:Nat)(ca:Option Addr)(cc:Nat)(la:Option Addr)(lc:Nat)(D:TrD)(left:Int)(w:World)(h0:0<=left)(h1:left<=1048576)(hx:TrMax D)(hm:TrAt w 0 fa ha oa sa ca la D) :
  Calls Tryz.prog 5 #[.agg (bD fa ha oa fc hc oc sa sc ca cc la lc D),.int .i64 left] w fun e w'=>∃r:Int,e=.returned (.int .i64 r)/\r<=left/\(0<=r->cC D)/\Below w.heap.size w w':=by
 unfold bD;have hbA:Below w.heap.size w (w.alloc (.cells #[.slice fa D.vm.frames.length fc,.slice ha D.vm.heap.length hc,.int .i64 D.vm.made,.slice oa D.vm.out.length oc,.int .i64 D.vm.status,.int .i64 D.vm.trap,.int .i64 D.vm.value.k,.int .i64 D.vm.value.n,.string D.vm.value.s,.int .i64 D.vm.steps,.slice sa D.sites.length sc,.slice ca D.codes.length cc,.slice la D.fails.length lc,.int .i64 D.guards,.int .i64 D.entered] 36)):=gM.alloc nL _;have hM0:=ah w #[.slice fa D.vm.frames.length fc,.slice ha D.vm.heap.length hc,.int .i64 D.vm.made,.slice oa D.vm.out.length oc,.int .i64 D.vm.status,.int .i64 D.vm.trap,.int .i64 D.vm.value.k,.int .i64 D.vm.value.n,.string D.vm.value.s,.int .i64 D.vm.steps,.slice sa D.sites.length sc,.slice ca D.codes.length cc,.slice la D.fails.length lc,.int .i64 D.guards,.int .i64 D.entered] 36;go_enter Tryz.func5,Tryz.ntmps5
 go_wp2_with fail
 refine (szVm_any fa ha oa fc hc oc D.vm left _ h0 h1 hx.vm (hm.vm.frs.mono hbA) (hm.vm.recs.mono hbA) (hm.vm.out.mono hbA)).mono ?_;rintro e w1 ⟨r1,rfl,hr1,hs1,hb1⟩;have hB1:=hbA.trans (hb1.mono hbA.size);have hM1:=ab hM0 hb1;clear hM0 hb1 hbA;by_cases hn1:r1<0
 ·clear hs1;go_wp2;go_ret
  exact⟨-1,rfl,by omega,by omega,hB1⟩
 have HS1:Hid (bU D.vm):=hs1 (by omega);clear hs1;have y1:=aa hM1;go_wp2_with fail
 refine (szSiteS_any sa D.sites.length sc r1 _ (by omega) (by omega) hx.sites).mono ?_;rintro e w2 ⟨rfl,hw⟩;rw[hw];clear hw w2;by_cases hn2:r1<(D.sites.length:Int)
 ·rw[if_pos hn2];go_wp2;go_ret
  exact⟨-1,rfl,by omega,by omega,hB1⟩
 rw[if_neg hn2];have hz2:¬r1-(D.sites.length:Int)<0:=by omega
 go_wp2_with fail
 refine (szFastS_m ca D.codes cc (r1-D.sites.length) _ (by omega) (by omega) hx.codes (hm.codes.mono hB1)).mono ?_;rintro e w3 ⟨r3,rfl,hr3,hs3,hb3⟩;have hB3:=hB1.trans (hb3.mono hB1.size);have hM3:=ab hM1 hb3;clear hM1 hb3 y1;by_cases hn3:r3<0
 ·clear hs3;go_wp2;go_ret
  exact⟨-1,rfl,by omega,by omega,hB3⟩
 have HS3:Hid (aU bK D.codes/\(LM ft D.codes:Int)+r3<=r1-D.sites.length):=hs3 (by omega);clear hs3;have y3:=aa hM3;go_wp2_with fail
 refine (szFailS_any la D.fails.length lc r3 _ (by omega) (by omega) hx.fails).mono ?_;rintro e w4 ⟨rfl,hw⟩;rw[hw];clear hw w4;by_cases hn4:r3<(D.fails.length:Int)
 ·rw[if_pos hn4];go_wp2;go_ret
  exact⟨-1,rfl,by omega,by omega,hB3⟩
 rw[if_neg hn4];have hz4:¬r3-(D.fails.length:Int)<0:=by omega
 go_wp2;go_ret
 exact⟨_,rfl,by omega,fun _=>⟨HS1.out,by omega,HS3.out.1,by omega,by have:=HS3.out.2;omega⟩,hB3⟩
theorem Good.ok{ts:List ByteArray}{fs:List Fn}(h:Good ts fs):modB ts fs=true:=by
 obtain⟨f,a,⟨-,h,-⟩ | ⟨h,-⟩⟩:=h
 ·exact absurd h (by decide)
 ·exact h
def fR (ts:List ByteArray)(fs:List Fn)(d:VmD):Prop:=Good ts fs/\Room d/\bA fs d/\Vals fs.length d
theorem iVmOk_any(a1 a2:Option Addr)(c1 c2:Nat)(ts:List ByteArray)(fs:List Fn)(fa ha oa:Option Addr)(fc hcp oc:Nat)(d:VmD)(w:World)(hs:b9 ts fs)(hst:aT w 0 a1 ts)(hfn:FnsAt w 0 a2 fs)(hx:bU d)(hm:VmAt w 0 fa ha oa d) :
  Calls Tryz.prog 26 #[.agg #[.slice a1 ts.length c1,.slice a2 fs.length c2],.agg (aQ fa ha oa fc hcp oc d)] w fun e w'=>Says (fR ts fs d) e/\Below w.heap.size w w':=by
 have hbA:Below w.heap.size w ((w.alloc (.cells #[.slice a1 ts.length c1,.slice a2 fs.length c2] 42)).alloc (.cells (aQ fa ha oa fc hcp oc d) 48)):=(gM.alloc nL _).alloc (by simp) _;have hM0:=al (ah w #[.slice a1 ts.length c1,.slice a2 fs.length c2] 42) (.cells (aQ fa ha oa fc hcp oc d) 48);have hV0:=ax (w.alloc (.cells #[.slice a1 ts.length c1,.slice a2 fs.length c2] 42)) (aQ fa ha oa fc hcp oc d) 48 (w.heap.size+1) (by simp);unfold aQ at hbA hM0 hV0 ⊢;go_enter Tryz.func26,Tryz.ntmps26
 go_wp2_with fail
 refine (iAll_any _ _ _ _ ts fs _ hs (hst.mono hbA) (hfn.mono hbA)).mono ?_;rintro e w1 ⟨⟨v,c,f,a,rfl,hV,hG⟩,hb1⟩;have hM1:=ab hM0 hb1;have hV1:=ab hV0 hb1;have hB1:=hbA.trans (hb1.mono hbA.size);have HG:Hid (c=0↔Good ts fs):=hV.good;have HH:Hid (c=0->∃G,v=.slice (some ⟨G,0,none⟩) fs.length fs.length/\Hs w1 ((w.alloc (.cells #[.slice a1 ts.length c1,.slice a2 fs.length c2] 42)).alloc (.cells #[.slice fa d.frames.length fc,.slice ha d.heap.length hcp,.int .i64 d.made,.slice oa d.out.length oc,.int .i64 d.status,.int .i64 d.trap,.int .i64 d.value.k,.int .i64 d.value.n,.string d.value.s,.int .i64 d.steps] 48)).heap.size G fs.length fs):=hG;clear hM0 hV0 hb1 hbA hV hG;by_cases hc:c=0
 case neg=>
  have hc':(c == 0)=false:=by simpa using hc
  have HC:Hid (¬c=0):=hc;clear hc;go_wp2;go_ret
  exact⟨Says.no rfl (fun h=>HC.out (HG.out.2 h.1)),hB1.alloc hB1.size _⟩
 subst hc;obtain⟨G,rfl,hHs⟩:=HH.out rfl;have hgood:=HG.out.1 rfl;have HGD:Hid (Good ts fs):=hgood;have FF:∀k (hk:k<fs.length),Fine fs fs[k].code:=fun k hk=>cy hgood.ok hk
 obtain⟨w2,hw2⟩:∃w2,w2=w1.alloc (.cells #[.int .i64 0,.int .i64 f,.int .i64 a] 95):=⟨_,rfl⟩;have hb2:Below w1.heap.size w1 w2:=by rw[hw2];exact gM.alloc nL _
 have hB2:=hB1.trans (hb2.mono hB1.size);have hM2:=ab hM1 hb2;have hV2:=ab hV1 hb2;have hHs2:=hHs.mono hb2;have v1:=aa (al hV1 (.cells #[.int .i64 0,.int .i64 f,.int .i64 a] 95));clear HG HH hgood hb2 hM1 hV1 hHs hB1;go_wp2_with fail
 rw[<-hw2];clear v1 hw2;refine (roomOk_any fa ha oa fc hcp oc d _ hx (hm.mono hB2)).mono ?_;rintro e w3 ⟨⟨q,rfl,hq⟩,hb3⟩;have HQ:Hid (q=true↔fq d):=hq;have hB3:=hB2.trans (hb3.mono hB2.size);have hM3:=ab hM2 hb3;have hV3:=ab hV2 hb3;have hHs3:=hHs2.mono hb3;clear hq hb3 hM2 hV2 hHs2 hB2;have HQn:Hid (q=false->¬fq d):=fun h hr=>by rw[HQ.out.2 hr] at h;cases h
 have HQy:Hid (q=true->fq d):=HQ.out.1;clear HQ
 cases hqc:q with
 | false=>
  have HN:Hid (¬fq d):=HQn.out hqc;clear hqc HQn HQy;go_wp2;go_ret
  exact⟨Says.no rfl (fun h=>HN.out (eb.2 h.2).1),hB3⟩
 | true=>
  have HR:Hid (fq d):=HQy.out hqc;clear hqc HQn HQy;have m3:=aa hM3;have v3:=aa hV3;go_wp2_with fail
  refine (framesOk_any a1 a2 ts.length c1 c2 fs _ G fa ha oa fc hcp oc d _ hx (hm.mono hB3) (hfn.mono hB3) hHs3 FF).mono ?_;rintro e w4 ⟨⟨q4,rfl,hq4⟩,hb4⟩;have hB4:=hB3.trans (hb4.mono hB3.size);have hM4:=ab hM3 hb4;have hV4:=ab hV3 hb4;have HQn:Hid (q4=false->¬bA fs d):=fun h hr=>by rw[hq4.2 hr] at h;cases h
  have HQy:Hid (q4=true->bA fs d):=hq4.1;clear hq4 hb4 hM3 hV3 hHs3 hB3 m3 v3
  cases hqc:q4 with
  | false=>
   have HN:Hid (¬bA fs d):=HQn.out hqc;clear hqc HQn HQy;go_wp2;go_ret
   exact⟨Says.no rfl (fun h=>HN.out h.2.2.1),hB4⟩
  | true=>
   have HF:Hid (bA fs d):=HQy.out hqc;clear hqc HQn HQy;have m4:=aa hM4;have v4:=aa hV4;go_wp2_with fail
   refine (heapOk_any a1 a2 ts.length c1 fs.length c2 ha d.heap hcp _ hx.heap hx.fields (hm.recs.mono hB4)).mono ?_;rintro e w5 ⟨rfl,hb5⟩;have hB5:=hB4.trans (hb5.mono hB4.size);have hM5:=ab hM4 hb5;have hV5:=ab hV4 hb5;clear m4 v4 hB4 hM4 hV4 hb5;by_cases hH:fB fs.length d.heap
   case neg=>
    rw[aw hH];have HN:Hid (¬fB fs.length d.heap):=hH;clear hH;go_wp2;go_ret
    exact⟨Says.no rfl (fun h=>HN.out (eb.2 h.2).2.2.1),hB5⟩
   rw[ay hH];have HH:Hid (fB fs.length d.heap):=hH;clear hH;have m5:=aa hM5;have v5:=aa hV5;go_wp2_with fail
   refine (valuesOk_any a1 a2 ts.length c1 fs.length c2 fa ha oa fc hcp oc d _ hx (hm.mono hB5)).mono ?_;rintro e w6 ⟨⟨q5,rfl,hq5⟩,hb6⟩;have HQ5:Hid (q5=true↔Vals1 fs.length d):=hq5;clear hq5 m5 v5;go_wp2;go_ret
   exact⟨⟨q5,rfl,⟨fun h=>⟨HGD.out,eb.1 ⟨HR.out,HF.out,HH.out,HQ5.out.1 h⟩⟩,fun h=>HQ5.out.2 (eb.2 h.2).2.2.2⟩⟩,hB5.trans (hb6.mono hB5.size)⟩
theorem insD_outF{fs:List Fn}{f p:Int}(h:¬(0<=f/\f<=(fs.length:Int)-1)):insD fs f p=none:=by
 unfold insD;split
 ·rename_i hh
  rw[List.getElem?_eq_none (by omega)];rfl
 ·rfl
theorem insD_outP{fs:List Fn}{f:Nat}{p:Int}(hf:f<fs.length)(h:¬(0<=p/\p<=(fs[f].code.length:Int)-1)):insD fs f p=none:=by
 unfold insD;split
 ·rename_i hh
  rw[Int.toNat_natCast,List.getElem?_eq_getElem hf];show fs[f].code[p.toNat]?=none
  exact List.getElem?_eq_none (by omega)
 ·rfl
theorem failP_none{fs:List Fn}{s:Si}(h:insD fs s.f s.pc=none):¬FailP fs s:=by
 intro q;have q1:=q.1;rw[h] at q1;unfold fh at q1;simp at q1
theorem s17Fail_any(a1 a2:Option Addr)(nt c1 c2:Nat)(fs:List Fn)(sf sp sn tg:Int)(w:World)(hnf:fs.length<=1048576)(hc:∀f∈fs,f.code.length<=1048576)(hm:FnsAt w 0 a2 fs) :
  Calls Tryz.prog 47 #[.agg #[.slice a1 nt c1,.slice a2 fs.length c2],.agg #[.int .i64 sf,.int .i64 sp,.int .i64 sn,.int .i64 tg]] w fun e w'=>e=.returned (.bool (pB (FailP fs ⟨sf,sp,sn,tg⟩)))/\Below w.heap.size w w':=by
 obtain⟨r,hr⟩:∃r,r=pB (FailP fs ⟨sf,sp,sn,tg⟩):=⟨_,rfl⟩;rw[<-hr];have HR:Hid (r=pB (FailP fs ⟨sf,sp,sn,tg⟩)):=hr;clear hr;obtain⟨W,hW⟩:∃W,W=(w.alloc (.cells #[.slice a1 nt c1,.slice a2 fs.length c2] 42)).alloc (.cells #[.int .i64 sf,.int .i64 sp,.int .i64 sn,.int .i64 tg] 104):=⟨_,rfl⟩;have hB:Below w.heap.size w W:=by rw[hW];exact (gM.alloc nL _).alloc (by simp) _
 have hX:W.heap[w.heap.size]?=some (.cells #[.slice a1 nt c1,.slice a2 fs.length c2] 42 (0,0)):=by rw[hW];exact al (ah _ _ _) _
 have hY:W.heap[w.heap.size+1]?=some (.cells #[.int .i64 sf,.int .i64 sp,.int .i64 sn,.int .i64 tg] 104 (0,0)):=by rw[hW];exact ax _ _ _ _ (by simp)
 have HB:=hidz hB;by_cases h1:0<=sf/\sf<=(fs.length:Int)-1
 case neg=>
  have HQ:Hid (r=false):=by show _=_;rw[HR.out];exact aw (failP_none (insD_outF h1))
  have H1:=hidz h1;have HS:Hid (∀w',Below W.heap.size W w'->w'.cell? ⟨w.heap.size,1,none⟩=some (.slice a2 fs.length c2)/\w'.cell? ⟨w.heap.size+1,0,none⟩=some (.int .i64 sf)):=fun w' h=>⟨ckb hX h rfl,ckb hY h rfl⟩
  clear h1 hm hc hB hX hY;go_enter Tryz.func47,Tryz.ntmps47
  go_upto_region 1 with fail
  rw[<-hW];clear hW;refine au (by kernel_rfl) (by kernel_rfl) ?_
  iterate 5
   refine ae (v:=?_) (by kernel_rfl) ?_ ?_;rotate_left
   ·intro w' hC;obtain⟨j0,j1⟩:=HS.out w' hC;go_simp;try with_reducible rfl
   try simp only[Act.put,sAr,sZe,sSu]
  refine ae (v:=.int .i64 ((fs.length:Int)-1)) (by kernel_rfl) ?_ ?_
  ·intro w' hC;obtain⟨j0,j1⟩:=HS.out w' hC;go_simp;first | done | (rw[IntKind.wrap_i64];omega)
  try simp only[Act.put,sAr,sZe,sSu]
  refine ae (v:=.bool false) (by kernel_rfl) ?_ ?_
  ·intro w' hC;go_simp;refine (a9 H1.out w').mono ?_;rintro e w'' ⟨rfl,rfl⟩;exact⟨rfl,hC⟩
  try simp only[Act.put,sAr,sZe,sSu]
  iterate 2
   refine ae (v:=?_) (by kernel_rfl) ?_ ?_;rotate_left
   ·intro w' hC;obtain⟨j0,j1⟩:=HS.out w' hC;go_simp;try with_reducible rfl
   try simp only[Act.put,sAr,sZe,sSu]
  iterate 13 go_big_quiet_skip
  iterate 2
   refine ae (v:=?_) (by kernel_rfl) ?_ ?_;rotate_left
   ·intro w' hC;obtain⟨j0,j1⟩:=HS.out w' hC;go_simp;try with_reducible rfl
   try simp only[Act.put,sAr,sZe,sSu]
  iterate 4 go_big_quiet_skip
  refine ae (v:=?_) (by kernel_rfl) ?_ ?_;rotate_left
  ·intro w' hC;obtain⟨j0,j1⟩:=HS.out w' hC;go_simp;try with_reducible rfl
  try simp only[Act.put,sAr,sZe,sSu]
  refine wpQuiet_nil ?_;intro w2 q2;have hBe:=HB.out.trans (q2.mono HB.out.size);clear q2 HS;go_wp2;go_ret
  exact⟨aj (by rw[HQ.out]),hBe⟩
 obtain⟨f,rfl⟩:∃f:Nat,sf=f:=⟨sf.toNat,by omega⟩;have hf:f<fs.length:=by omega
 obtain⟨b,off,ca,cc,rfl,-,d1,d2,d3,hcode⟩:=hm f hf;have hcl:=hc _ (n_l hf);have H1:=hidz h1;have hfL:(f:Int)<(fs.length:Int):=by omega
 by_cases h2:0<=sp/\sp<=(fs[f].code.length:Int)-1
 case neg=>
  have HQ:Hid (r=false):=by show _=_;rw[HR.out];exact aw (failP_none (insD_outP hf h2))
  obtain⟨cl,hcl'⟩:∃cl,cl=fs[f].code.length:=⟨_,rfl⟩;rw[<-hcl'] at h2 d3 hcl;have H2:=hidz h2;have HS:Hid (∀w',Below W.heap.size W w'->w'.cell? ⟨w.heap.size,1,none⟩=some (.slice (some ⟨b,off,none⟩) fs.length c2)/\w'.cell? ⟨w.heap.size+1,0,none⟩=some (.int .i64 (f:Int))/\w'.cell? ⟨w.heap.size+1,1,none⟩=some (.int .i64 sp)/\w'.cell? ⟨b,off+f*3+2,none⟩=some (.slice ca cl cc)):=fun w' h=>⟨ckb hX h rfl,ckb hY h rfl,ckb hY h rfl,cell_later (hB.trans (h.mono hB.size)) d3⟩
  clear h1 h2 hcode hc hB hX hY d1 d2 d3 hcl' hf;go_enter Tryz.func47,Tryz.ntmps47
  go_upto_region 1 with fail
  rw[<-hW];clear hW;refine au (by kernel_rfl) (by kernel_rfl) ?_
  iterate 5
   refine ae (v:=?_) (by kernel_rfl) ?_ ?_;rotate_left
   ·intro w' hC;obtain⟨j0,j1,j2,j3⟩:=HS.out w' hC;go_simp;try with_reducible rfl
   try simp only[Act.put,sAr,sZe,sSu]
  refine ae (v:=.int .i64 ((fs.length:Int)-1)) (by kernel_rfl) ?_ ?_
  ·intro w' hC;obtain⟨j0,j1,j2,j3⟩:=HS.out w' hC;go_simp;first | done | (rw[IntKind.wrap_i64];omega)
  try simp only[Act.put,sAr,sZe,sSu]
  refine ae (v:=.bool true) (by kernel_rfl) ?_ ?_
  ·intro w' hC;go_simp;refine (aE H1.out w').mono ?_;rintro e w'' ⟨rfl,rfl⟩;exact⟨rfl,hC⟩
  try simp only[Act.put,sAr,sZe,sSu]
  iterate 12
   refine ae (v:=?_) (by kernel_rfl) ?_ ?_;rotate_left
   ·intro w' hC;obtain⟨j0,j1,j2,j3⟩:=HS.out w' hC;go_simp;try with_reducible rfl
   try simp only[Act.put,sAr,sZe,sSu]
  refine ae (v:=.int .i64 ((cl:Int)-1)) (by kernel_rfl) ?_ ?_
  ·intro w' hC;obtain⟨j0,j1,j2,j3⟩:=HS.out w' hC;go_simp;first | done | (rw[IntKind.wrap_i64];omega)
  try simp only[Act.put,sAr,sZe,sSu]
  refine ae (v:=.bool false) (by kernel_rfl) ?_ ?_
  ·intro w' hC;go_simp;refine (a9 H2.out w').mono ?_;rintro e w'' ⟨rfl,rfl⟩;exact⟨rfl,hC⟩
  try simp only[Act.put,sAr,sZe,sSu]
  iterate 3
   refine ae (v:=?_) (by kernel_rfl) ?_ ?_;rotate_left
   ·intro w' hC;obtain⟨j0,j1,j2,j3⟩:=HS.out w' hC;go_simp;try with_reducible rfl
   try simp only[Act.put,sAr,sZe,sSu]
  iterate 4 go_big_quiet_skip
  refine ae (v:=?_) (by kernel_rfl) ?_ ?_;rotate_left
  ·intro w' hC;obtain⟨j0,j1,j2,j3⟩:=HS.out w' hC;go_simp;try with_reducible rfl
  try simp only[Act.put,sAr,sZe,sSu]
  refine wpQuiet_nil ?_;intro w2 q2;have hBe:=HB.out.trans (q2.mono HB.out.size);clear q2 HS;go_wp2;go_ret
  exact⟨aj (by rw[HQ.out]),hBe⟩
 obtain⟨p,rfl⟩:∃p:Nat,sp=p:=⟨sp.toNat,by omega⟩;have hp:p<fs[f].code.length:=by omega
 obtain⟨b2,off2,rfl,-,e1,-⟩:=hcode p hp;have HI:Hid (FailP fs ⟨f,p,sn,tg⟩↔fh fs[f].code[p].1 sn/\1<=tg/\tg<=1000000):=by
  show _↔_
  unfold FailP;simp only
  rw[dF hf hp];rfl
 obtain⟨op,hop⟩:∃op,op=fs[f].code[p].1:=⟨_,rfl⟩;rw[<-hop] at HI e1;obtain⟨cl,hcl'⟩:∃cl,cl=fs[f].code.length:=⟨_,rfl⟩;rw[<-hcl'] at h2 d3 hcl;have H2:=hidz h2;have hpL:(p:Int)<(cl:Int):=by omega
 have HS:Hid (∀w',Below W.heap.size W w'->w'.cell? ⟨w.heap.size,1,none⟩=some (.slice (some ⟨b,off,none⟩) fs.length c2)/\w'.cell? ⟨w.heap.size+1,0,none⟩=some (.int .i64 (f:Int))/\w'.cell? ⟨w.heap.size+1,1,none⟩=some (.int .i64 (p:Int))/\w'.cell? ⟨b,off+f*3+2,none⟩=some (.slice (some ⟨b2,off2,none⟩) cl cc)/\w'.cell? ⟨w.heap.size+1,2,none⟩=some (.int .i64 sn)/\w'.cell? ⟨w.heap.size+1,3,none⟩=some (.int .i64 tg)/\w'.cell? ⟨b2,off2+p*2,none⟩=some (.int .i64 op)):=fun w' h=>⟨ckb hX h rfl,ckb hY h rfl,ckb hY h rfl,cell_later (hB.trans (h.mono hB.size)) d3,ckb hY h rfl,ckb hY h rfl,cell_later (hB.trans (h.mono hB.size)) e1⟩
 clear h1 h2 hcode hc hB hX hY d1 d2 d3 e1 hcl' hop hf hp;by_cases h3:1<=tg/\tg<=1000000
 case neg=>
  have HQ:Hid (r=false):=by show _=_;rw[HR.out];exact aw (fun h=>h3 (HI.out.1 h).2)
  have H3:=hidz h3;clear h3 HI;go_enter Tryz.func47,Tryz.ntmps47
  go_upto_region 1 with fail
  rw[<-hW];clear hW;refine au (by kernel_rfl) (by kernel_rfl) ?_
  iterate 5
   refine ae (v:=?_) (by kernel_rfl) ?_ ?_;rotate_left
   ·intro w' hC;obtain⟨j0,j1,j2,j3,j4,j5,j6⟩:=HS.out w' hC;go_simp;try with_reducible rfl
   try simp only[Act.put,sAr,sZe,sSu]
  refine ae (v:=.int .i64 ((fs.length:Int)-1)) (by kernel_rfl) ?_ ?_
  ·intro w' hC;obtain⟨j0,j1,j2,j3,j4,j5,j6⟩:=HS.out w' hC;go_simp;first | done | (rw[IntKind.wrap_i64];omega)
  try simp only[Act.put,sAr,sZe,sSu]
  refine ae (v:=.bool true) (by kernel_rfl) ?_ ?_
  ·intro w' hC;go_simp;refine (aE H1.out w').mono ?_;rintro e w'' ⟨rfl,rfl⟩;exact⟨rfl,hC⟩
  try simp only[Act.put,sAr,sZe,sSu]
  iterate 12
   refine ae (v:=?_) (by kernel_rfl) ?_ ?_;rotate_left
   ·intro w' hC;obtain⟨j0,j1,j2,j3,j4,j5,j6⟩:=HS.out w' hC;go_simp;try with_reducible rfl
   try simp only[Act.put,sAr,sZe,sSu]
  refine ae (v:=.int .i64 ((cl:Int)-1)) (by kernel_rfl) ?_ ?_
  ·intro w' hC;obtain⟨j0,j1,j2,j3,j4,j5,j6⟩:=HS.out w' hC;go_simp;first | done | (rw[IntKind.wrap_i64];omega)
  try simp only[Act.put,sAr,sZe,sSu]
  refine ae (v:=.bool true) (by kernel_rfl) ?_ ?_
  ·intro w' hC;go_simp;refine (aE H2.out w').mono ?_;rintro e w'' ⟨rfl,rfl⟩;exact⟨rfl,hC⟩
  try simp only[Act.put,sAr,sZe,sSu]
  iterate 5
   refine ae (v:=?_) (by kernel_rfl) ?_ ?_;rotate_left
   ·intro w' hC;obtain⟨j0,j1,j2,j3,j4,j5,j6⟩:=HS.out w' hC;go_simp;try with_reducible rfl
   try simp only[Act.put,sAr,sZe,sSu]
  refine ae (v:=.bool false) (by kernel_rfl) ?_ ?_
  ·intro w' hC;go_simp;refine (a9 H3.out w').mono ?_;rintro e w'' ⟨rfl,rfl⟩;exact⟨rfl,hC⟩
  try simp only[Act.put,sAr,sZe,sSu]
  iterate 2
   refine ae (v:=?_) (by kernel_rfl) ?_ ?_;rotate_left
   ·intro w' hC;obtain⟨j0,j1,j2,j3,j4,j5,j6⟩:=HS.out w' hC;go_simp;try with_reducible rfl
   try simp only[Act.put,sAr,sZe,sSu]
  refine wpQuiet_nil ?_;intro w2 q2;have hBe:=HB.out.trans (q2.mono HB.out.size);clear q2 HS;go_wp2;go_ret
  exact⟨aj (by rw[HQ.out]),hBe⟩
 have H3:=hidz h3;clear h3;go_enter Tryz.func47,Tryz.ntmps47
 go_upto_region 1 with fail
 rw[<-hW];clear hW;refine au (by kernel_rfl) (by kernel_rfl) ?_
 iterate 5
  refine ae (v:=?_) (by kernel_rfl) ?_ ?_;rotate_left
  ·intro w' hC;obtain⟨j0,j1,j2,j3,j4,j5,j6⟩:=HS.out w' hC;go_simp;try with_reducible rfl
  try simp only[Act.put,sAr,sZe,sSu]
 refine ae (v:=.int .i64 ((fs.length:Int)-1)) (by kernel_rfl) ?_ ?_
 ·intro w' hC;obtain⟨j0,j1,j2,j3,j4,j5,j6⟩:=HS.out w' hC;go_simp;first | done | (rw[IntKind.wrap_i64];omega)
 try simp only[Act.put,sAr,sZe,sSu]
 refine ae (v:=.bool true) (by kernel_rfl) ?_ ?_
 ·intro w' hC;go_simp;refine (aE H1.out w').mono ?_;rintro e w'' ⟨rfl,rfl⟩;exact⟨rfl,hC⟩
 try simp only[Act.put,sAr,sZe,sSu]
 iterate 12
  refine ae (v:=?_) (by kernel_rfl) ?_ ?_;rotate_left
  ·intro w' hC;obtain⟨j0,j1,j2,j3,j4,j5,j6⟩:=HS.out w' hC;go_simp;try with_reducible rfl
  try simp only[Act.put,sAr,sZe,sSu]
 refine ae (v:=.int .i64 ((cl:Int)-1)) (by kernel_rfl) ?_ ?_
 ·intro w' hC;obtain⟨j0,j1,j2,j3,j4,j5,j6⟩:=HS.out w' hC;go_simp;first | done | (rw[IntKind.wrap_i64];omega)
 try simp only[Act.put,sAr,sZe,sSu]
 refine ae (v:=.bool true) (by kernel_rfl) ?_ ?_
 ·intro w' hC;go_simp;refine (aE H2.out w').mono ?_;rintro e w'' ⟨rfl,rfl⟩;exact⟨rfl,hC⟩
 try simp only[Act.put,sAr,sZe,sSu]
 iterate 5
  refine ae (v:=?_) (by kernel_rfl) ?_ ?_;rotate_left
  ·intro w' hC;obtain⟨j0,j1,j2,j3,j4,j5,j6⟩:=HS.out w' hC;go_simp;try with_reducible rfl
  try simp only[Act.put,sAr,sZe,sSu]
 refine ae (v:=.bool true) (by kernel_rfl) ?_ ?_
 ·intro w' hC;go_simp;refine (aE H3.out w').mono ?_;rintro e w'' ⟨rfl,rfl⟩;exact⟨rfl,hC⟩
 try simp only[Act.put,sAr,sZe,sSu]
 iterate 2
  refine ae (v:=?_) (by kernel_rfl) ?_ ?_;rotate_left
  ·intro w' hC;obtain⟨j0,j1,j2,j3,j4,j5,j6⟩:=HS.out w' hC;go_simp;try with_reducible rfl
  try simp only[Act.put,sAr,sZe,sSu]
 refine wpQuiet_nil ?_;intro w2 q2;have HB2:=hidz (HB.out.trans (q2.mono HB.out.size));have HS2:Hid (∀w',Below w2.heap.size w2 w'->w'.cell? ⟨w.heap.size,1,none⟩=some (.slice (some ⟨b,off,none⟩) fs.length c2)/\w'.cell? ⟨w.heap.size+1,0,none⟩=some (.int .i64 (f:Int))/\w'.cell? ⟨w.heap.size+1,1,none⟩=some (.int .i64 (p:Int))/\w'.cell? ⟨b,off+f*3+2,none⟩=some (.slice (some ⟨b2,off2,none⟩) cl cc)/\w'.cell? ⟨w.heap.size+1,2,none⟩=some (.int .i64 sn)/\w'.cell? ⟨w.heap.size+1,3,none⟩=some (.int .i64 tg)/\w'.cell? ⟨b2,off2+p*2,none⟩=some (.int .i64 op)):=fun w' h=>HS.out w' (q2.trans (h.mono q2.size))
 clear q2 HS;go_upto_region 3 with fail
 refine au (by kernel_rfl) (by kernel_rfl) ?_
 iterate 13
  refine ae (v:=?_) (by kernel_rfl) ?_ ?_;rotate_left
  ·intro w' hC;obtain⟨j0,j1,j2,j3,j4,j5,j6⟩:=HS2.out w' hC;go_simp;try with_reducible rfl
  try simp only[Act.put,sAr,sZe,sSu]
 refine wpQuiet_nil ?_;intro w3 q3;have HB3:=hidz (HB2.out.trans (q3.mono HB2.out.size));obtain⟨j0,j1,j2,j3,j4,j5,j6⟩:=HS2.out w3 q3;clear q3 HS2 HB2 HB H1 H2 j0 j1 j2 j3 j5 j6;by_cases k1:sn=1
 ·subst k1;have HN:=hidz (fS op w3);by_cases ho:11<=op/\op<=14
  ·have hq:(11<=op/\op<=14\/op=23):=.inl ho;rw[decide_eq_true hq] at HN;have e23:(op != 23)=true:=by simp;omega
   have HQ:Hid (r=true):=by show _=_;rw[HR.out];exact ay (HI.out.2 ⟨.inl ⟨rfl,ho⟩,H3.out⟩)
   clear ho hq;go_wp2_with fail
   refine HN.out.mono ?_;rintro e w8 ⟨rfl,hw8⟩;rw[hw8];clear hw8 w8 HN;go_wp2;go_ret
   exact⟨aj (by rw[HQ.out]),HB3.out⟩
  ·have HQ:Hid (r=false):=by show _=_;rw[HR.out];exact aw (fun h=>by rcases (HI.out.1 h).1 with h | h;exact ho h.2;exact absurd h.1 (by decide))
   by_cases h23:op=23
   ·subst h23;clear ho;go_wp2_with fail
    refine HN.out.mono ?_;rintro e w8 ⟨rfl,hw8⟩;rw[hw8];clear hw8 w8 HN;go_wp2;go_ret
    exact⟨aj (by rw[HQ.out]),HB3.out⟩
   ·have hq:¬(11<=op/\op<=14\/op=23):=fun h=>h.elim ho h23
    rw[decide_eq_false hq] at HN;clear ho h23 hq;go_wp2_with fail
    refine HN.out.mono ?_;rintro e w8 ⟨rfl,hw8⟩;rw[hw8];clear hw8 w8 HN;go_wp2;go_ret
    exact⟨aj (by rw[HQ.out]),HB3.out⟩
 ·have g1:(sn == 1)=false:=beq_eq_false_iff_ne.2 k1;by_cases k2:sn=2
  ·subst k2;by_cases ho:op=23
   ·subst ho;have HQ:Hid (r=true):=by show _=_;rw[HR.out];exact ay (HI.out.2 ⟨.inr ⟨rfl,rfl⟩,H3.out⟩)
    clear k1;go_wp2;go_ret
    exact⟨aj (by rw[HQ.out]),HB3.out⟩
   ·have HQ:Hid (r=false):=by show _=_;rw[HR.out];exact aw (fun h=>by rcases (HI.out.1 h).1 with h | h;exact absurd h.1 (by decide);exact ho h.2)
    have g23:(op == 23)=false:=beq_eq_false_iff_ne.2 ho;clear k1 ho;go_wp2;go_ret
    exact⟨aj (by rw[HQ.out]),HB3.out⟩
  ·have HQ:Hid (r=false):=by show _=_;rw[HR.out];exact aw (fun h=>by rcases (HI.out.1 h).1 with h | h;exact k1 h.1;exact k2 h.1)
   have g2:(sn == 2)=false:=beq_eq_false_iff_ne.2 k2;clear k1 k2;go_wp2;go_ret
   exact⟨aj (by rw[HQ.out]),HB3.out⟩
end Go.Proofs.YtdlkbbgmjilccaaGreatDoor
