/- TV7 -/
import Derived.Test.YtdlkbbgmjilccaaGreatDoorTV4
import Derived.Test.YtdlkbbgmjilccaaGreatDoorTV6
import Derived.Test.YtdlkbbgmjilccaaGreatDoorTV5
import Derived.Deep.LoopGhost
set_option maxHeartbeats 32000000
set_option maxRecDepth 100000
namespace Go.Proofs.YtdlkbbgmjilccaaGreatDoor
open Go.RowKit
def At (fs:List Fn)(ss:List Si)(i:Nat)(h:i<ss.length):Prop:=cM fs ss[i]/\(0<i->a5 ss[i-1] ss[i])
def Prof (fs:List Fn)(ss:List Si):Prop:=∀i (h:i<ss.length),At fs ss i h
section
variable {a1 a2:Option Addr} {nt c1 c2:Nat} {fs:List Fn} {s:Si} {w:World}
theorem siteOk_yes(hc:∀f∈fs,f.code.length<=1048576)(hm:FnsAt w 0 a2 fs)(h:cM fs s) :
  Calls Tryz.prog 111 #[.agg #[.slice a1 nt c1,.slice a2 fs.length c2],.agg #[.int .i64 s.f,.int .i64 s.pc,.int .i64 s.seen,.int .i64 s.target]] w fun e w'=>e=.returned (.bool true)/\Below w.heap.size w w':=by
 have:=siteOk_any a1 a2 nt c1 c2 fs s w hc hm;rwa [ay h] at this
theorem siteOk_no(hc:∀f∈fs,f.code.length<=1048576)(hm:FnsAt w 0 a2 fs)(h:¬cM fs s) :
  Calls Tryz.prog 111 #[.agg #[.slice a1 nt c1,.slice a2 fs.length c2],.agg #[.int .i64 s.f,.int .i64 s.pc,.int .i64 s.seen,.int .i64 s.target]] w fun e w'=>e=.returned (.bool false)/\Below w.heap.size w w':=by
 have:=siteOk_any a1 a2 nt c1 c2 fs s w hc hm;rwa [aw h] at this
end
theorem eT(fs:List Fn)(ss:List Si):Prof fs ss↔(∀i (h:i<ss.length),cM fs ss[i])/\AscI ss:=
 ⟨fun h=>⟨fun i hi=>(h i hi).1,fun i hi h0=>(h i hi).2 h0⟩,fun h i hi=>⟨h.1 i hi,fun h0=>h.2 i hi h0⟩⟩
theorem cD{fs:List Fn}{ss:List Si}{k:Nat}(h:∀j (hj:j<ss.length),j<k->At fs ss j hj)(hlt:k<ss.length)(hk:At fs ss k hlt):∀j (hj:j<ss.length),j<k+1->At fs ss j hj:=by
 intro j hj hjk;by_cases e:j=k
 ·subst e;exact hk
 ·exact h j hj (by omega)
theorem sitesOk_any(a1 a2:Option Addr)(nt c1 c2:Nat)(fs:List Fn)(a:Option Addr)(cap:Nat)(ss:List Si)(w:World)(hn:ss.length<=150)(hc:∀f∈fs,f.code.length<=1048576)(hm:FnsAt w 0 a2 fs)(hs:aS w 0 a ss) :
  Calls Tryz.prog 61 #[.agg #[.slice a1 nt c1,.slice a2 fs.length c2],.slice a ss.length cap] w fun e w'=>e=.returned (.bool (pB (Prof fs ss)))/\Below w.heap.size w w':=by
 go_enter Tryz.func61,Tryz.ntmps61
 go_wp2;go_loopw [9] (fun i wr=>∃(k:Nat),k<=ss.length/\i=.int .i64 k/\Hid (∀j (hj:j<ss.length),j<k->cM fs ss[j])/\wr.heap[w.heap.size]?=some (.cells #[.slice a1 nt c1,.slice a2 fs.length c2] 42 (0,0))/\Below w.heap.size w wr) (fun i _=>ss.length-(intOf i).toNat)
 case atStart=>exact⟨0,by omega,rfl,fun _ _ h=>absurd h (Nat.not_lt_zero _),ah _ _ _,gM.alloc nL _⟩
 case round=>
  obtain⟨k,hk,rfl,hdone,hM,hb⟩:=hrel;by_cases hlt:k<ss.length
  ·obtain⟨b,off,rfl,-,d1,d2,d3,d4⟩:=hs k hlt;have d1':=cell_later hb d1;have d2':=cell_later hb d2;have d3':=cell_later hb d3;have d4':=cell_later hb d4;clear d1 d2 d3 d4;have NB:=al hM (.cells #[.int .i64 ss[k].f,.int .i64 ss[k].pc,.int .i64 ss[k].seen,.int .i64 ss[k].target] 113);have hbA:Below w.heap.size w (wr.alloc (.cells #[.int .i64 ss[k].f,.int .i64 ss[k].pc,.int .i64 ss[k].seen,.int .i64 ss[k].target] 113)):=hb.alloc hb.size _;have m1:=aa NB;obtain⟨wA,hwA⟩:∃wA,wA=wr.alloc (.cells #[.int .i64 ss[k].f,.int .i64 ss[k].pc,.int .i64 ss[k].seen,.int .i64 ss[k].target] 113):=⟨_,rfl⟩;rw[<-hwA] at NB hbA;by_cases h1:cM fs ss[k]
   case neg=>
    have HN:Hid (¬cM fs ss[k]):=h1;clear h1;go_wp2_with fail
    rw[<-hwA];clear hwA;refine (siteOk_no (a1:=a1) (a2:=a2) (nt:=nt) (c1:=c1) (c2:=c2) (s:=ss[k]) (w:=wA) hc (hm.mono hbA) HN.out).mono ?_;rintro e w2 ⟨rfl,hb2⟩;go_wp2;go_ret
    exact ⟨aj (aw (fun h => HN.out ((eT fs ss).1 h |>.1 k hlt))).symm, hbA.trans (hb2.mono hbA.size)⟩
   have HP:Hid (cM fs ss[k]):=h1;clear h1;go_wp2_with fail
   rw[<-hwA];clear hwA;refine (siteOk_yes (a1:=a1) (a2:=a2) (nt:=nt) (c1:=c1) (c2:=c2) (s:=ss[k]) (w:=wA) hc (hm.mono hbA) HP.out).mono ?_;rintro e w2 ⟨rfl,hb2⟩;go_wp2;go_roundw
   case rel=>
    refine⟨k+1,by omega,by go_num,?_,ab NB hb2,hbA.trans (hb2.mono hbA.size)⟩;intro j hj hjk;by_cases e:j=k
    ·subst e;exact HP.out
    ·exact hdone.out j hj (by omega)
   case measure=>simp[intOf];omega
  ·have HD:Hid (∀i (h:i<ss.length),cM fs ss[i]):=fun i hi=>hdone.out i hi (by omega)
   clear hdone hM;go_wp2_with fail
   refine (ascSites_any a ss cap wr (by omega) (hs.mono hb)).mono ?_;rintro e w2 ⟨rfl,hb2⟩;have HB2:Hid (Below w.heap.size w w2):=hb.trans (hb2.mono hb.size);go_wp2;go_ret
   refine⟨aj ?_,HB2.out⟩;by_cases h:AscI ss
   ·rw[ay h,ay ((eT fs ss).2 ⟨HD.out,h⟩)]
   ·rw[aw h,aw (fun h'=>h ((eT fs ss).1 h').2)]
def Ht (w:World)(g cap:Nat)(d:List Int):Prop:=∃cur:Array Value,w.heap[g]?=some (Obj.cells cur 3 (0,0))/\cur.size=cap/\d.length<=cap/\∀j (h:j<d.length),cur[j]?=some (.int .i64 d[j])
theorem Ht.mono{w w':World}{g cap:Nat}{d:List Int}(h:Ht w g cap d)(hb:Below w.heap.size w w'):Ht w' g cap d:=by
 obtain⟨c,h1,h2⟩:=h;exact⟨c,ab h1 hb,h2⟩
theorem Ht.lt{w:World}{g cap:Nat}{d:List Int}(h:Ht w g cap d):g<w.heap.size:=by
 obtain⟨c,h1,-⟩:=h;exact aq h1
theorem Ht.cell{w:World}{g cap:Nat}{d:List Int}(h:Ht w g cap d){j:Nat}(hj:j<d.length):w.cell? ⟨g,j,none⟩=some (.int .i64 d[j]):=by
 obtain⟨c,h1,-,-,h4⟩:=h;rw[aa h1];exact h4 j hj
theorem Ht.free{w:World}{g cap:Nat}{d:List Int}(h:Ht w g cap d)(j:Nat):w.frozen? ⟨g,j,none⟩=false:=by
 obtain⟨c,h1,-⟩:=h;exact am h1 j
theorem Ht.set{w:World}{g cap:Nat}{d:List Int}(h:Ht w g cap d){j:Nat}(hj:j<d.length)(x:Int):Ht (w.setCell ⟨g,j,none⟩ (.int .i64 x)) g cap (d.set j x):=by
 obtain⟨c,h1,h2,h3,h4⟩:=h;refine⟨_,ao h1 _,by simpa using h2,by simpa using h3,fun i hi=>?_⟩;rw[List.length_set] at hi;by_cases e:i=j
 ·subst e;rw[az _ (by omega)];simp
 ·rw[ac _ e,List.getElem_set_ne (fun q=>e q.symm)];exact h4 i hi
theorem Ht.ints{w:World}{g cap lo:Nat}{d:List Int}(h:Ht w g cap d)(hg:lo<=g):bM w lo (some ⟨g,0,none⟩) d:=fun i hi=>⟨g,0,rfl,hg,by rw[Nat.zero_add];exact h.cell hi⟩
theorem Ht.own{w:World}{B n:Nat}{v:Value}{vs:List Value}{d:List Int}(h:w.ownsRow B 3 1 v n vs)(hv:vs=d.map (Value.int .i64))(hn:n=d.length)(h0:0<n):∃g cap,v=.slice (some ⟨g,0,none⟩) n cap/\B<=g/\Ht w g cap d:=by
 subst hv;subst hn;rcases h.2 with ⟨-,hn⟩ | ⟨g,cap,cur,hv,hb,hh,hn,-,hs,htake⟩
 ·omega
 ·refine⟨g,cap,hv,hb,cur,hh,by omega,hn,fun i hi=>?_⟩;have h1:(cur.toList.take (d.length*1))[i]?=(d.map (Value.int .i64))[i]?:=by rw[htake]
  rw[List.getElem?_take_of_lt (by omega)] at h1;simpa[hi] using h1
theorem stepB_no{fs:List Fn}{x:Int×Int}{pc:Nat}{h:List Int}{z t l:Int}(hz:h.getD pc (-1)=z)(ht:(aG fs x.1 x.2).1=t)(hl:(aG fs x.1 x.2).2=l)(hc:z<t\/16<z-t+l):dI fs x pc h=h:=by
 unfold dI;rw[hz,ht,hl,if_pos hc]
theorem stepB_yes{fs:List Fn}{x:Int×Int}{pc:Nat}{h:List Int}{z t l:Int}(hz:h.getD pc (-1)=z)(ht:(aG fs x.1 x.2).1=t)(hl:(aG fs x.1 x.2).2=l)(hc:¬(z<t\/16<z-t+l)):dI fs x pc h=(nextB x.1 x.2 pc).foldl (layB (z-t+l)) h:=by
 unfold dI;rw[hz,ht,hl,if_neg hc]
theorem part_succ{fs:List Fn}{code:List (Int×Int)}{k:Nat}(hk:k<code.length)(h:List Int):bk fs code (k+1) h=dI fs code[k] k (bk fs code k h):=by
 show dI fs (code.getD k (0,0)) k (bk fs code k h)=_
 rw[bW hk]
theorem eV{fs:List Fn}{code:List (Int×Int)}(F:Fine fs code){k:Nat}(hk:k<code.length):∀nx∈nextB code[k].1 code[k].2 k,0<=nx/\nx<=code.length:=by
 intro nx hnx;unfold nextB at hnx;split at hnx
 ·simp at hnx
 ·split at hnx
  ·simp at hnx;have:=F.jump k hk (by omega);omega
  ·split at hnx
   ·simp at hnx
    rcases hnx with h | h
    ·omega
    ·have:=F.jump k hk (by omega);omega
   ·simp at hnx;omega
theorem fold_take{α β:Type}{f:β->α->β}{l:List α}{k:Nat}(hk:k<l.length)(b:β):(l.take (k+1)).foldl f b=f ((l.take k).foldl f b) l[k]:=by
 rw[List.take_succ_eq_append_getElem hk,List.foldl_append];rfl
theorem iModuleOk_any(a1 a2:Option Addr)(ts:List ByteArray)(fs:List Fn)(c1 c2:Nat)(w:World)(hs:b9 ts fs)(hm:aT w 0 a1 ts)(hf:FnsAt w 0 a2 fs) :
  Calls Tryz.prog 100 #[.agg #[.slice a1 ts.length c1,.slice a2 fs.length c2]] w fun e w'=>e=.returned (.bool (modB ts fs))/\Below w.heap.size w w':=by
 have s1:=hs.texts;have s2:=hs.funcs;by_cases hh:1<=fs.length/\fs.length<=12/\ts.length<=20
 ·have HF:Hid (modB ts fs=(ts.all bg && fs.all fun f=>fnB ts.length fs.length f)):=modB_all hh;obtain⟨g1,g2,g3⟩:=hh;have hbA:Below w.heap.size w (w.alloc (.cells #[.slice a1 ts.length c1,.slice a2 fs.length c2] 42)):=gM.alloc nL _;have hM0:=ah w #[.slice a1 ts.length c1,.slice a2 fs.length c2] 42;go_enter Tryz.func100,Tryz.ntmps100
  go_wp2;go_loop [25] (fun i=>∃(k:Nat),k<=ts.length/\i=.int .i64 k/\(ts.take k).all bg=true) (fun i=>ts.length-(intOf i).toNat)
  case atStart=>exact⟨0,by omega,rfl,by simp⟩
  case round=>
   obtain⟨k,hk,rfl,hall⟩:=hrel;by_cases hlt:k<ts.length
   ·obtain⟨b,off,rfl,-,e1⟩:=hm k hlt;have e1':=cell_later hbA e1;have hts:=hs.text ts[k] (n_l hlt);clear e1 hM0;by_cases hi:bg ts[k]=true
    ·go_wp2_with (go_at_call 105;refine (dj _ _ hts).mono ?_;rintro e w' ⟨rfl,rfl⟩)
     go_round
     case rel=>exact⟨k+1,by omega,by go_num,bE hlt hall hi⟩
     case measure=>simp[intOf];omega
    ·have hi':bg ts[k]=false:=by simpa using hi
     have HN:Hid (modB ts fs=false):=by rw[HF.out,cd hlt hi'];rfl
     clear hi;go_wp2_with (go_at_call 105;refine (dj _ _ hts).mono ?_;rintro e w' ⟨rfl,rfl⟩)
     go_ret
     exact⟨aj HN.out.symm,hbA⟩
   ·have hall2:ts.all bg=true:=bL (by omega) hall;have HF2:Hid (modB ts fs=fs.all fun f=>fnB ts.length fs.length f):=by rw[HF.out,hall2];rfl
    clear hall hall2;go_wp2;go_loopw [36] (fun i wr=>∃(k:Nat),k<=fs.length/\i=.int .i64 k/\(fs.take k).all (fun f=>fnB ts.length fs.length f)=true/\wr.heap[w.heap.size]?=some (.cells #[.slice a1 ts.length c1,.slice a2 fs.length c2] 42 (0,0))/\Below w.heap.size w wr) (fun i _=>fs.length-(intOf i).toNat)
    case atStart=>exact⟨0,by omega,rfl,by simp,hM0,hbA⟩
    case round=>
     obtain⟨q,hq,rfl,hallf,hM,hb⟩:=hrel;clear hM0;by_cases hlq:q<fs.length
     ·have x1:=aa hM;have hcq:=hs.code fs[q] (n_l hlq);go_wp2_with fail
      refine (funcOk_any a1 a2 ts.length c1 c2 fs q _ hlq (hf.mono hb) hcq).mono ?_;rintro e w2 ⟨rfl,hb2⟩;have hM2:=ab hM hb2;have hb3:Below w.heap.size w w2:=hb.trans (hb2.mono hb.size);clear x1 hb2;by_cases hi:fnB ts.length fs.length fs[q]=true
      ·go_wp2;go_roundw
       case rel=>exact⟨q+1,by omega,by go_num,bE (p:=fun f=>fnB ts.length fs.length f) hlq hallf hi,hM2,hb3⟩
       case measure=>simp[intOf];omega
      ·have hi':fnB ts.length fs.length fs[q]=false:=by simpa using hi
       have HN:Hid (modB ts fs=false):=by rw[HF2.out];exact cd (p:=fun f=>fnB ts.length fs.length f) hlq hi'
       clear hi;go_wp2;go_ret
       exact⟨aj HN.out.symm,hb3⟩
     ·go_wp2;go_ret
      exact⟨aj (by rw[HF2.out];exact (bL (by omega) hallf).symm),hb⟩
 ·have HF:Hid (modB ts fs=false):=modB_no hh;rcases (show 20<(ts.length:Int)\/((ts.length:Int)<=20/\(fs.length:Int)<1)\/((ts.length:Int)<=20/\1<=(fs.length:Int)/\12<(fs.length:Int)) by omega) with h | ⟨h,h2⟩ | ⟨h,h2,h3⟩
  all_goals
   clear hh;go_enter Tryz.func100,Tryz.ntmps100
   go_wp2;go_ret
   exact⟨aj HF.out.symm,gM.alloc nL _⟩
end Go.Proofs.YtdlkbbgmjilccaaGreatDoor
