/- RV20 -/
import Derived.Test.YtbjmgmmekmfjhaaGreatDoorRV14
import Derived.Test.YtbjmgmmekmfjhaaGreatDoorRV19
import Derived.Laws.CopyRow
import Derived.Shelf.Strconv.Clone
namespace Go.Proofs
open Go.Shelf Go.RowKit
def Tryz.laysM316_ren : Go.Shelf.Ren := ⟨fun | 316 => 283 | n => n, fun | 9 => 9 | 3 => 3 | 4 => 4 | 37 => 217 | 0 => 0 | 127 => 402 | 5 => 5 | n => n, fun | n => n⟩
theorem Tryz.laysM316 : Go.Proofs.LaysM.n316 Tryz.prog Tryz.laysM316_ren := {
 mixed := by kernel_rfl
 f316 := Tryz.func283.trans (congrArg some (by kernel_rfl))
 t0 := Tryz.underlying0
 a0 := Tryz.isAgg0
 z0 := Tryz.sizeOf0
 v0 := Tryz.zeroValue0
 t3 := Tryz.underlying3
 a3 := Tryz.isAgg3
 z3 := Tryz.sizeOf3
 v3 := Tryz.zeroValue3
 t4 := Tryz.underlying4
 a4 := Tryz.isAgg4
 z4 := Tryz.sizeOf4
 v4 := Tryz.zeroValue4
 t9 := Tryz.underlying9
 a9 := Tryz.isAgg9
 z9 := Tryz.sizeOf9
 v9 := Tryz.zeroValue9
 t37 := Tryz.underlying217
 a37 := Tryz.isAgg217
 z37 := Tryz.sizeOf217
 v37 := Tryz.zeroValue217
 t127 := Tryz.underlying402
 a127 := Tryz.isAgg402
 z127 := Tryz.sizeOf402
 v127 := Tryz.zeroValue402
 t5 := Tryz.underlying5
 a5 := Tryz.isAgg5
 z5 := Tryz.sizeOf5
 v5 := Tryz.zeroValue5
 i0 := by kernel_rfl
 i3 := by kernel_rfl
 i4 := by kernel_rfl
 i5 := by kernel_rfl
 i9 := by kernel_rfl
 i37 := by kernel_rfl
 i127 := by kernel_rfl }
theorem Tryz.stringslite_Clone (s : ByteArray) (w : World) (hlim : s.size ≤ 281474976710656) :
   Calls Tryz.prog 283 #[.string s] w fun e w' => e = .returned (.string s) ∧ Below w.heap.size w w' := Any.stringslite_Clone Tryz.laysM316 s w hlim
end Go.Proofs
set_option maxHeartbeats 32000000
set_option maxRecDepth 100000
namespace Go.Proofs.YtbjmgmmekmfjhaaGreatDoor
open Go.RowKit
theorem dw(k n:Int)(s:ByteArray)(w:World) :
  Calls Tryz.prog 84 #[.agg #[.int .i64 k,.int .i64 n,.string s],.agg #[.int .i64 k,.int .i64 n,.string s]] w fun e w'=>e=.returned (.bool true)/\Below w.heap.size w w':=by
 go_enter Tryz.func84,Tryz.ntmps84
 go_wp2;go_ret
 exact⟨rfl,(b_r.alloc n_l _).alloc (by simp) _⟩
theorem szValueS_any(a:Option Addr)(vs:List Vl)(cap:Nat)(left:Int)(w:World)(h0:0<=left)(h1:left<=1048576)(hx:cW vs)(hm:aQ w 0 a vs) :
  Calls Tryz.prog 25 #[.slice a vs.length cap,.int .i64 left] w fun e w'=>∃r:Int,e=.returned (.int .i64 r)/\r<=left/\(0<=r->aE vs)/\Below w.heap.size w w':=by
 obtain⟨hn,hc⟩:=hx;have hn':=hn;unfold maxLen at hn;by_cases h:left<vs.length
 ·go_enter Tryz.func25,Tryz.ntmps25
  go_wp2;go_ret
  exact⟨-1,rfl,by omega,by omega,Below.refl _ _⟩
 ·go_enter Tryz.func25,Tryz.ntmps25
  go_wp2;go_loopw [1,5] (fun l i wr=>∃(k:Nat) (q:Int),k<=vs.length/\i=.int .i64 k/\l=.int .i64 q/\0<=q/\q<=left-vs.length/\(∀f∈vs.take k,f.s.size<=1048576)/\Below w.heap.size w wr) (fun _ i _=>vs.length-(intOf i).toNat)
  case atStart=>exact⟨0,_,by omega,rfl,rfl,by omega,by omega,by simp,Below.refl _ _⟩
  case round=>
   obtain⟨k,q,hk,rfl,rfl,hq0,hq1,hall,hb⟩:=hrel;by_cases hlt:k<vs.length
   ·obtain⟨b,off,rfl,-,c1,c2,c3⟩:=hm k hlt;have c1':=cell_later hb c1;have c2':=cell_later hb c2;have c3':=cell_later hb c3;clear c1 c2 c3;have hck:=hc vs[k] (g_m hlt);by_cases hs:q<vs[k].s.size
    ·go_wp2_with (go_at_call 70;refine (ex _ _ _ _ _ hq0 (by omega) hck).mono ?_;rintro e w' ⟨rfl,hb'⟩)
     go_ret
     exact⟨_,rfl,by omega,by omega,hb.trans (hb'.mono hb.size)⟩
    ·go_wp2_with (go_at_call 70;refine (ex _ _ _ _ _ hq0 (by omega) hck).mono ?_;rintro e w' ⟨rfl,hb'⟩)
     go_roundw
     case rel=>exact⟨k+1,q-vs[k].s.size,by omega,by go_num,by rw[if_neg (by omega)],by omega,by omega,bA hlt hall (by omega),hb.trans (hb'.mono hb.size)⟩
     case measure=>simp[intOf];omega
   ·go_wp2;go_ret
    exact⟨q,rfl,by omega,fun _=>⟨by omega,by rwa [List.take_of_length_le (by omega)] at hall⟩,hb⟩
theorem szRec_any(a:Option Addr)(vs:List Vl)(cap:Nat)(left:Int)(w:World)(h0:0<=left)(h1:left<=1048576)(hx:cW vs)(hm:aQ w 0 a vs) :
  Calls Tryz.prog 71 #[.agg #[.slice a vs.length cap],.int .i64 left] w fun e w'=>∃r:Int,e=.returned (.int .i64 r)/\r<=left/\(0<=r->aE vs)/\Below w.heap.size w w':=by
 have hbA:Below w.heap.size w (w.alloc (.cells #[.slice a vs.length cap] 120)):=b_r.alloc n_l _;go_enter Tryz.func71,Tryz.ntmps71
 go_wp2_with fail
 refine (szValueS_any a vs cap left _ h0 h1 hx (hm.mono hbA)).mono ?_;rintro e w1 ⟨r,rfl,hr,hs,hb⟩;have hB:=hbA.trans (hb.mono hbA.size);by_cases hr0:r<0
 ·go_wp2;go_ret
  exact⟨-1,rfl,by omega,by omega,hB⟩
 ·go_wp2;go_ret
  exact⟨r,rfl,hr,hs,hB⟩
theorem szRecS_any(a:Option Addr)(rs:List (List Vl))(cap:Nat)(left:Int)(w:World)(h0:0<=left)(h1:left<=1048576)(hn:rs.length<=maxLen)(hc:∀r∈rs,cW r)(hm:bT w 0 a rs) :
  Calls Tryz.prog 26 #[.slice a rs.length cap,.int .i64 left] w fun e w'=>∃r:Int,e=.returned (.int .i64 r)/\r<=left/\(0<=r->rs.length<=1048576/\∀r∈rs,aE r)/\Below w.heap.size w w':=by
 unfold maxLen at hn;by_cases h:left<rs.length
 ·go_enter Tryz.func26,Tryz.ntmps26
  go_wp2;go_ret
  exact⟨-1,rfl,by omega,by omega,Below.refl _ _⟩
 ·go_enter Tryz.func26,Tryz.ntmps26
  go_wp2;go_loopw [1,5] (fun l i wr=>∃(k:Nat) (q:Int),k<=rs.length/\i=.int .i64 k/\l=.int .i64 q/\0<=q/\q<=left-rs.length/\Hid (∀f∈rs.take k,aE f)/\Below w.heap.size w wr) (fun _ i _=>rs.length-(intOf i).toNat)
  case atStart=>exact⟨0,_,by omega,rfl,rfl,by omega,by omega,by intro f hf;simp at hf,Below.refl _ _⟩
  case round=>
   obtain⟨k,q,hk,rfl,rfl,hq0,hq1,hall,hb⟩:=hrel;by_cases hlt:k<rs.length
   ·obtain⟨b,off,fa,fc,rfl,-,c1,c2⟩:=hm k hlt;have c1':=cell_later hb c1;clear c1;have hck:=hc rs[k] (g_m hlt);go_wp2_with fail
    refine (szRec_any _ _ _ _ _ hq0 (by omega) hck (c2.mono hb)).mono ?_;rintro e w2 ⟨r,rfl,hr,hs,hb'⟩;have hB:=hb.trans (hb'.mono hb.size);clear c1' hb' c2;by_cases hr0:r<0
    ·go_wp2;go_ret
     exact⟨-1,rfl,by omega,by omega,hB⟩
    ·go_wp2;go_roundw
     case rel=>exact⟨k+1,r,by omega,by go_num,rfl,by omega,by omega,bA hlt hall.out (hs (by omega)),hB⟩
     case measure=>simp[intOf];omega
   ·go_wp2;go_ret
    exact⟨q,rfl,by omega,fun _=>⟨by omega,by have:=hall.out;rwa [List.take_of_length_le (by omega)] at this⟩,hb⟩
theorem cz(a:Option Addr)(vs:List Vl)(cap:Nat)(w:World)(hn:vs.length<=1048576)(hm:aQ w 0 a vs) :
  Calls Tryz.prog 28 #[.slice a vs.length cap] w fun e w'=>e=.returned (.slice (some ⟨w.heap.size,0,none⟩) vs.length vs.length)/\aQ w' w.heap.size (some ⟨w.heap.size,0,none⟩) vs/\a7 w' w.heap.size vs.length/\Below w.heap.size w w':=by
 obtain⟨i0,hi,hz0,hz1,hz2⟩:=info_parts info80;go_enter Tryz.func28,Tryz.ntmps28
 go_wp2_with (first | (at_make;refine wpList_make_full _ rfl _ _ 62 rfl w.heap.size 80 i0 (.agg #[.int .i64 0,.int .i64 0,.string ByteArray.empty]) 3 Tryz.underlying62 hi hz0 hz1 _ _ _ _ vs.length rfl rfl rfl rfl (by rw[hz2];omega) (by unfold maxLen;omega) n_l ?_;intro w1 hown hgrow))
 obtain⟨cur0,hblk,hsz⟩:=aY hown;have hb0:Below w.heap.size w w1:=b_r.grown hgrow n_l (by intro k hk;cases hk);clear hown hgrow hi hz0 hz1 hz2;go_loopw [4] (fun i wr=>∃(k:Nat) (cur:Array Value),k<=vs.length/\i=.int .i64 k/\wr.heap[w.heap.size]?=some (.cells cur 80 (0,0))/\cur.size=vs.length*3/\(∀j (hj:j<vs.length),j<k->cur[j*3]?=some (.int .i64 vs[j].k)/\cur[j*3+1]?=some (.int .i64 vs[j].n)/\cur[j*3+2]?=some (.string vs[j].s))/\Below w.heap.size w wr) (fun i _=>vs.length-(intOf i).toNat)
 case atStart=>exact⟨0,cur0,by omega,rfl,hblk,hsz,fun j _ h=>by omega,hb0⟩
 case round=>
  obtain⟨k,cur,hk,rfl,hblk,hsz,hdone,hb⟩:=hrel;by_cases hlt:k<vs.length
  ·obtain⟨b,off,rfl,-,c1,c2,c3⟩:=hm k hlt;have c1':=cell_later hb c1;have c2':=cell_later hb c2;have c3':=cell_later hb c3;clear c1 c2 c3;go_wp2_with fail
   refine (ei _ _ _ _).mono ?_;rintro e w2 ⟨rfl,hb2⟩;have hblk2:=ah hblk hb2;have hfz:=aq hblk2;have hcl:w2.cell? ⟨w.heap.size,k*3,none⟩=some cur[k*3]:=by rw[ae hblk2];simp
   have hcl2:w2.cell? ⟨w.heap.size,k*3+1,none⟩=some cur[k*3+1]:=by rw[ae hblk2];simp
   have hcl3:w2.cell? ⟨w.heap.size,k*3+2,none⟩=some cur[k*3+2]:=by rw[ae hblk2];simp
   have hb3:Below w.heap.size w w2:=hb.trans (hb2.mono hb.size);go_wp2;go_roundw
   case rel=>
    refine⟨k+1,((cur.setIfInBounds (k*3) (.int .i64 vs[k].k)).setIfInBounds (k*3+1) (.int .i64 vs[k].n)).setIfInBounds (k*3+2) (.string vs[k].s),by omega,by go_num,ak (ak (ak hblk2 _) _) _,by simpa using hsz,?_,((hb3.setCell n_l _).setCell n_l _).setCell n_l _⟩;intro j hj hjk;by_cases e:j=k
    ·subst e;refine⟨?_,?_,?_⟩
     ·rw[aj _ (by omega),aj _ (by omega)];exact aC _ (by omega)
     ·rw[aj _ (by omega)];exact aC _ (by simp;omega)
     ·exact aC _ (by simp;omega)
    ·obtain⟨d1,d2,d3⟩:=hdone j hj (by omega);refine⟨?_,?_,?_⟩
     ·rw[aj _ (by omega),aj _ (by omega),aj _ (by omega)];exact d1
     ·rw[aj _ (by omega),aj _ (by omega),aj _ (by omega)];exact d2
     ·rw[aj _ (by omega),aj _ (by omega),aj _ (by omega)];exact d3
   case measure=>simp[intOf];omega
  ·go_wp2;go_ret
   refine⟨rfl,fun j hj=>?_,⟨cur,hblk,hsz⟩,hb⟩;obtain⟨d1,d2,d3⟩:=hdone j hj (by omega);exact⟨w.heap.size,0,rfl,Nat.le_refl _,by rw[ae hblk,Nat.zero_add];exact d1,by rw[ae hblk,Nat.zero_add];exact d2,by rw[ae hblk,Nat.zero_add];exact d3⟩
theorem cR(a a2:Option Addr)(vs:List Vl)(cap cap2:Nat)(w:World)(hn:vs.length<=1048576)(hm:aQ w 0 a vs)(hm2:aQ w 0 a2 vs) :
  Calls Tryz.prog 34 #[.slice a vs.length cap,.slice a2 vs.length cap2] w fun e w'=>e=.returned (.bool true)/\Below w.heap.size w w':=by
 go_enter Tryz.func34,Tryz.ntmps34
 go_wp2;go_loopw [5] (fun i wr=>∃(k:Nat),k<=vs.length/\i=.int .i64 k/\Below w.heap.size w wr) (fun i _=>vs.length-(intOf i).toNat)
 case atStart=>exact⟨0,by omega,rfl,Below.refl _ _⟩
 case round=>
  obtain⟨k,hk,rfl,hb⟩:=hrel;by_cases hlt:k<vs.length
  ·obtain⟨b,off,rfl,-,c1,d1,f1⟩:=hm k hlt;obtain⟨b2,off2,rfl,-,c2,d2,f2⟩:=hm2 k hlt;have c1':=cell_later hb c1;have c2':=cell_later hb c2;have d1':=cell_later hb d1;have d2':=cell_later hb d2;have f1':=cell_later hb f1;have f2':=cell_later hb f2;clear c1 c2 d1 d2 f1 f2;go_wp2;go_region_with (go_at_call 84;refine (dw _ _ _ _).mono ?_;rintro e w1 ⟨rfl,hb1⟩)
   all_goals
    go_wp2;go_roundw
    case rel=>
     refine⟨k+1,by omega,by go_num,Below.trans ?_ (hb1.mono ?_)⟩
     ·repeat (first | exact hb | apply Below.drew)
     ·exact hb.size
    case measure=>simp[intOf];omega
  ·go_wp2;go_ret
   exact⟨rfl,hb⟩
theorem eqRec_any(a a2:Option Addr)(vs:List Vl)(cap cap2:Nat)(w:World)(hn:vs.length<=1048576)(hm:aQ w 0 a vs)(hm2:aQ w 0 a2 vs) :
  Calls Tryz.prog 83 #[.agg #[.slice a vs.length cap],.agg #[.slice a2 vs.length cap2]] w fun e w'=>e=.returned (.bool true)/\Below w.heap.size w w':=by
 go_enter Tryz.func83,Tryz.ntmps83
 go_wp2_with fail
 have hbA:Below w.heap.size w ((w.alloc (.cells #[.slice a vs.length cap] 125)).alloc (.cells #[.slice a2 vs.length cap2] 125)):=(b_r.alloc n_l _).alloc (by simp) _;refine (cR a a2 vs cap cap2 _ hn (hm.mono hbA) (hm2.mono hbA)).mono ?_;rintro e w1 ⟨rfl,hb⟩;go_wp2;go_ret
 exact⟨rfl,hbA.trans (hb.mono (by simp;omega))⟩
theorem eqFrame_any(f p:Int)(a a2 b b2:Option Addr)(vs us:List Vl)(c1 c2 e1 e2:Nat)(w:World)(hn:vs.length<=1048576)(hn2:us.length<=1048576)(hm:aQ w 0 a vs)(hm2:aQ w 0 a2 vs)(hs:aQ w 0 b us)(hs2:aQ w 0 b2 us) :
  Calls Tryz.prog 82 #[.agg #[.int .i64 f,.int .i64 p,.slice a vs.length c1,.slice b us.length e1],.agg #[.int .i64 f,.int .i64 p,.slice a2 vs.length c2,.slice b2 us.length e2]] w fun e w'=>e=.returned (.bool true)/\Below w.heap.size w w':=by
 have hbA:Below w.heap.size w ((w.alloc (.cells #[.int .i64 f,.int .i64 p,.slice a vs.length c1,.slice b us.length e1] 136)).alloc (.cells #[.int .i64 f,.int .i64 p,.slice a2 vs.length c2,.slice b2 us.length e2] 136)):=(b_r.alloc n_l _).alloc (by simp) _;have hX0:=au (al w #[.int .i64 f,.int .i64 p,.slice a vs.length c1,.slice b us.length e1] 136) (.cells #[.int .i64 f,.int .i64 p,.slice a2 vs.length c2,.slice b2 us.length e2] 136);have hY0:=al (w.alloc (.cells #[.int .i64 f,.int .i64 p,.slice a vs.length c1,.slice b us.length e1] 136)) #[.int .i64 f,.int .i64 p,.slice a2 vs.length c2,.slice b2 us.length e2] 136;simp only[World.size_alloc] at hY0
 go_enter Tryz.func82,Tryz.ntmps82
 go_wp2_with fail
 refine (cR a a2 vs c1 c2 _ hn (hm.mono hbA) (hm2.mono hbA)).mono ?_;rintro e w1 ⟨rfl,hb⟩;have hB1:=hbA.trans (hb.mono hbA.size);have x1:=ae (ah hX0 hb);have y1:=ae (ah hY0 hb);go_wp2_with fail
 refine (cR b b2 us e1 e2 _ hn2 (hs.mono hB1) (hs2.mono hB1)).mono ?_;rintro e w2 ⟨rfl,hb2⟩;clear x1 y1;go_wp2;go_ret
 exact⟨rfl,hB1.trans (hb2.mono hB1.size)⟩
theorem dN(a a2:Option Addr)(rs:List (List Vl))(cap cap2:Nat)(w:World)(hn:rs.length<=1048576)(hc:∀r∈rs,aE r)(hm:bT w 0 a rs)(hm2:bT w 0 a2 rs) :
  Calls Tryz.prog 33 #[.slice a rs.length cap,.slice a2 rs.length cap2] w fun e w'=>e=.returned (.bool true)/\Below w.heap.size w w':=by
 go_enter Tryz.func33,Tryz.ntmps33
 go_wp2;go_loopw [5] (fun i wr=>∃(k:Nat),k<=rs.length/\i=.int .i64 k/\Below w.heap.size w wr) (fun i _=>rs.length-(intOf i).toNat)
 case atStart=>exact⟨0,by omega,rfl,Below.refl _ _⟩
 case round=>
  obtain⟨k,hk,rfl,hb⟩:=hrel;by_cases hlt:k<rs.length
  ·obtain⟨b,off,ca,cc,rfl,-,c1,f1⟩:=hm k hlt;obtain⟨b2,off2,ca2,cc2,rfl,-,c2,f2⟩:=hm2 k hlt;have c1':=cell_later hb c1;have c2':=cell_later hb c2;have hck:=(hc rs[k] (g_m hlt)).1;clear c1 c2;go_wp2;go_region_with (go_at_call 83;refine (eqRec_any _ _ _ _ _ _ hck (by exact f1.mono (by repeat (first | exact hb | apply Below.drew))) (by exact f2.mono (by repeat (first | exact hb | apply Below.drew)))).mono ?_;rintro e w1 ⟨rfl,hb1⟩)
   all_goals
    go_wp2;go_roundw
    case rel=>
     refine⟨k+1,by omega,by go_num,Below.trans ?_ (hb1.mono ?_)⟩
     ·repeat (first | exact hb | apply Below.drew)
     ·exact hb.size
    case measure=>simp[intOf];omega
  ·go_wp2;go_ret
   exact⟨rfl,hb⟩
theorem dE(a a2:Option Addr)(fr:List Fr)(cap cap2:Nat)(w:World)(hn:fr.length<=1048576)(hc:∀f∈fr,aE f.locals)(hc2:∀f∈fr,aE f.stack)(hm:fJ w 0 a fr)(hm2:fJ w 0 a2 fr) :
  Calls Tryz.prog 32 #[.slice a fr.length cap,.slice a2 fr.length cap2] w fun e w'=>e=.returned (.bool true)/\Below w.heap.size w w':=by
 go_enter Tryz.func32,Tryz.ntmps32
 go_wp2;go_loopw [5] (fun i wr=>∃(k:Nat),k<=fr.length/\i=.int .i64 k/\Below w.heap.size w wr) (fun i _=>fr.length-(intOf i).toNat)
 case atStart=>exact⟨0,by omega,rfl,Below.refl _ _⟩
 case round=>
  obtain⟨k,hk,rfl,hb⟩:=hrel;by_cases hlt:k<fr.length
  ·obtain⟨b,off,la,lc,sa,sc,rfl,-,c1,d1,e1,g1,p1,q1⟩:=hm k hlt;obtain⟨b2,off2,la2,lc2,sa2,sc2,rfl,-,c2,d2,e2,g2,p2,q2⟩:=hm2 k hlt;have c1':=cell_later hb c1;have c2':=cell_later hb c2;have d1':=cell_later hb d1;have d2':=cell_later hb d2;have e1':=cell_later hb e1;have e2':=cell_later hb e2;have g1':=cell_later hb g1;have g2':=cell_later hb g2;have hck:=(hc fr[k] (g_m hlt)).1;have hck2:=(hc2 fr[k] (g_m hlt)).1;clear c1 c2 d1 d2 e1 e2 g1 g2;go_wp2;go_region_with (go_at_call 82;refine (eqFrame_any _ _ _ _ _ _ _ _ _ _ _ _ _ hck hck2 (by exact p1.mono (by repeat (first | exact hb | apply Below.drew))) (by exact p2.mono (by repeat (first | exact hb | apply Below.drew))) (by exact q1.mono (by repeat (first | exact hb | apply Below.drew))) (by exact q2.mono (by repeat (first | exact hb | apply Below.drew)))).mono ?_;rintro e w1 ⟨rfl,hb1⟩)
   all_goals
    go_wp2;go_roundw
    case rel=>
     refine⟨k+1,by omega,by go_num,Below.trans ?_ (hb1.mono ?_)⟩
     ·repeat (first | exact hb | apply Below.drew)
     ·exact hb.size
    case measure=>simp[intOf];omega
  ·go_wp2;go_ret
   exact⟨rfl,hb⟩
theorem lit_any(k n:Int)(s:ByteArray)(r:Int)(a1 a2:Option Addr)(nt c1 nf c2 Mb Rb:Nat)(w:World)(hM:w.heap[Mb]?=some (.cells #[.slice a1 nt c1,.slice a2 nf c2] 36 (0,0)))(hR:w.heap[Rb]?=some (.cells #[.int .i64 r] 3 (0,0)))(hsz:s.size<=1048576) :
  Calls Tryz.prog 179 #[.agg #[.int .i64 k,.int .i64 n,.string s],.pointer (some ⟨Mb,0,none⟩),.pointer (some ⟨Rb,0,none⟩)] w fun e w'=>e=.returned (.bool (!valB k n s nf r))/\Below w.heap.size w w':=by
 have hbA:Below w.heap.size w (w.alloc (.cells #[.int .i64 k,.int .i64 n,.string s] 80)):=b_r.alloc n_l _;have x1:=ae (au hM (.cells #[.int .i64 k,.int .i64 n,.string s] 80));have x2:=ae (au hR (.cells #[.int .i64 k,.int .i64 n,.string s] 80));go_enter Tryz.func179,Tryz.ntmps179
 go_wp2_with fail
 refine (fX _ _ _ _ _ _ _ _ _ _ _ hsz).mono ?_;rintro e w1 ⟨rfl,hb⟩;clear x1 x2;go_wp2;go_ret
 exact⟨rfl,hbA.trans (hb.mono hbA.size)⟩
theorem firstBad_any(a:Option Addr)(vs:List Vl)(cap:Nat)(r:Int)(a1 a2:Option Addr)(nt c1 nf c2 Mb Rb:Nat)(w:World)(hM:w.heap[Mb]?=some (.cells #[.slice a1 nt c1,.slice a2 nf c2] 36 (0,0)))(hR:w.heap[Rb]?=some (.cells #[.int .i64 r] 3 (0,0)))(hs:aE vs)(hm:aQ w 0 a vs) :
  Calls Tryz.prog 251 #[.slice a vs.length cap,.func (.func 179) #[] #[.pointer (some ⟨Mb,0,none⟩),.pointer (some ⟨Rb,0,none⟩)]] w fun e w'=>ia (bY vs nf r) e/\Below w.heap.size w w':=by
 obtain⟨hn,hc⟩:=hs;go_enter Tryz.func251,Tryz.ntmps251
 go_wp2;go_loopw [8] (fun i wr=>∃(k:Nat),k<=vs.length/\i=.int .i64 k/\Hid ((vs.take k).all (okB nf r)=true)/\Below w.heap.size w wr) (fun i _=>vs.length-(intOf i).toNat)
 case atStart=>exact⟨0,by omega,rfl,rfl,Below.refl _ _⟩
 case round=>
  obtain⟨k,hk,rfl,hall,hb⟩:=hrel;by_cases hlt:k<vs.length
  ·obtain⟨b,off,rfl,-,d1,d2,d3⟩:=hm k hlt;have d1':=cell_later hb d1;have d2':=cell_later hb d2;have d3':=cell_later hb d3;clear d1 d2 d3;have hck:=hc vs[k] (g_m hlt);have hMk:=ah hM hb;have hRk:=ah hR hb;go_wp2_with fail
   refine (lit_any _ _ _ r a1 a2 nt c1 nf c2 Mb Rb _ hMk hRk hck).mono ?_;rintro e w1 ⟨rfl,hb1⟩;have hB:=hb.trans (hb1.mono hb.size);clear d1' d2' d3' hMk hRk hb1;by_cases ho:valB vs[k].k vs[k].n vs[k].s nf r=true
   ·have HO:Hid (valB vs[k].k vs[k].n vs[k].s nf r=true):=ho;go_wp2;go_roundw
    case rel=>exact⟨k+1,by omega,by go_num,b8 hlt hall.out HO.out,hB⟩
    case measure=>simp[intOf];omega
   ·have ho':valB vs[k].k vs[k].n vs[k].s nf r=false:=by simpa using ho
    have HO:Hid (valB vs[k].k vs[k].n vs[k].s nf r=false):=ho';clear ho;go_wp2;go_ret
    exact⟨⟨(k:Int),rfl,by rw[show bY vs nf r=false from cT hlt HO.out];simp⟩,hB⟩
  ·go_wp2;go_ret
   exact⟨⟨-1,rfl,by rw[show bY vs nf r=true from cD (by omega) hall.out];simp⟩,hb⟩
theorem hasBad_any(a:Option Addr)(vs:List Vl)(cap:Nat)(r:Int)(a1 a2:Option Addr)(nt c1 nf c2 Mb Rb:Nat)(w:World)(hM:w.heap[Mb]?=some (.cells #[.slice a1 nt c1,.slice a2 nf c2] 36 (0,0)))(hR:w.heap[Rb]?=some (.cells #[.int .i64 r] 3 (0,0)))(hs:aE vs)(hm:aQ w 0 a vs) :
  Calls Tryz.prog 178 #[.slice a vs.length cap,.func (.func 179) #[] #[.pointer (some ⟨Mb,0,none⟩),.pointer (some ⟨Rb,0,none⟩)]] w fun e w'=>e=.returned (.bool (!bY vs nf r))/\Below w.heap.size w w':=by
 go_enter Tryz.func178,Tryz.ntmps178
 go_wp2_with fail
 refine (firstBad_any a vs cap r a1 a2 nt c1 nf c2 Mb Rb _ hM hR hs hm).mono ?_;rintro e w1 ⟨⟨i,rfl,hi⟩,hb⟩;have HI:Hid (0<=i↔bY vs nf r=false):=hi;clear hi;go_wp2;go_ret
 exact⟨ax (by rw[Bool.eq_iff_iff];simpa using HI.out),hb⟩
theorem allIn_any(a:Option Addr)(vs:List Vl)(cap:Nat)(r:Int)(a1 a2:Option Addr)(nt c1 nf c2:Nat)(w:World)(hs:aE vs)(hm:aQ w 0 a vs) :
  Calls Tryz.prog 124 #[.agg #[.slice a1 nt c1,.slice a2 nf c2],.slice a vs.length cap,.int .i64 r] w fun e w'=>e=.returned (.bool (bY vs nf r))/\Below w.heap.size w w':=by
 have hmf:∀(fn:Go.Fn) (first cap:Array Value) (w:World),(Instr.makeFunc fn first cap).run Tryz.prog w=.ok (.func fn first cap) w:=fun _ _ _ _=>rfl
 have hbA:Below w.heap.size w ((w.alloc (.cells #[.slice a1 nt c1,.slice a2 nf c2] 36)).alloc (.cells #[.int .i64 r] 3)):=(b_r.alloc n_l _).alloc (by simp) _;have hM:=au (al w #[.slice a1 nt c1,.slice a2 nf c2] 36) (.cells #[.int .i64 r] 3);have hR:=al (w.alloc (.cells #[.slice a1 nt c1,.slice a2 nf c2] 36)) #[.int .i64 r] 3;simp only[World.size_alloc] at hR
 go_enter Tryz.func124,Tryz.ntmps124
 go_wp2_with fail
 refine (hasBad_any a vs cap r a1 a2 nt c1 nf c2 _ _ _ hM hR hs (hm.mono hbA)).mono ?_;rintro e w1 ⟨rfl,hb⟩;go_wp2;go_ret
 exact⟨ax (by simp),hbA.trans (hb.mono hbA.size)⟩
open Classical in
section
variable {fs:List Fn} {i p:Nat} {nl ns:Int} {last:Bool} {d:List Int}
end
def flat:List Vl->List Value
 | []=>[]
 | v :: vs=>.int .i64 v.k :: .int .i64 v.n :: .string v.s :: flat vs
theorem fU:∀vs:List Vl,(flat vs).length=vs.length*3
 | []=>rfl
 | v :: vs=>by simp only[flat,List.length_cons,fU vs];omega
theorem gv:∀(vs:List Vl) (i:Nat) (h:i<vs.length),(flat vs)[i*3]?=some (.int .i64 vs[i].k)/\(flat vs)[i*3+1]?=some (.int .i64 vs[i].n)/\(flat vs)[i*3+2]?=some (.string vs[i].s)
 | v :: vs,0,_=>by simp[flat]
 | v :: vs,i+1,h=>by
  obtain⟨h1,h2,h3⟩:=gv vs i (by simpa using h);rw[show (i+1)*3=i*3+1+1+1 by omega]
  simp only[flat,List.getElem?_cons_succ,List.getElem_cons_succ]
  exact⟨h1,h2,h3⟩
theorem flat_one:∀(vs:List Vl) (v:Value),v∈flat vs->v.oneCell'=true
 | [],v,h=>by simp[flat] at h
 | x :: vs,v,h=>by
  simp only[flat,List.mem_cons] at h
  rcases h with rfl | rfl | rfl | h
  ·rfl
  ·rfl
  ·rfl
  ·exact flat_one vs v h
theorem aQ.src{w:World}{b off:Nat}{vs:List Vl}(h:aQ w 0 (some ⟨b,off,none⟩) vs):∀(j:Nat) (v:Value),(flat vs)[j]?=some v->w.cell? ((⟨b,off,none⟩:Addr).add j)=some v:=by
 intro j v hj;have hjl:j<vs.length*3:=by
  rcases Nat.lt_or_ge j (vs.length*3) with h | h
  ·exact h
  ·rw[List.getElem?_eq_none (by rw[fU];exact h)] at hj;cases hj
 obtain⟨i,r,hr,rfl⟩:∃i r,r<3/\j=i*3+r:=⟨j / 3,j % 3,Nat.mod_lt _ (by omega),by omega⟩;have hi:i<vs.length:=by omega
 obtain⟨b',off',e,-,k1,k2,k3⟩:=h i hi
 cases e;obtain⟨f1,f2,f3⟩:=gv vs i hi;rw[Go.WideShapes.add_plain];match r,hr with
 | 0,_=>rw[Nat.add_zero] at hj ⊢;rw[f1] at hj;rw[<-hj];exact k1
 | 1,_=>rw[f2] at hj;rw[<-hj,<-Nat.add_assoc];exact k2
 | 2,_=>rw[f3] at hj;rw[<-hj,<-Nat.add_assoc];exact k3
theorem clone_any(s:ByteArray)(w:World)(hs:s.size<=1048576):Calls Tryz.prog 253 #[.string s] w fun e w'=>e=.returned (.string s)/\Below w.heap.size w w':=by
 go_enter Tryz.func253,Tryz.ntmps253
 go_wp2_with (go_at_call 283;refine (Tryz.stringslite_Clone s _ (by omega)).mono ?_;rintro e w1 ⟨rfl,hb⟩)
 go_ret
 exact⟨rfl,hb⟩
theorem dy(k n:Int)(s:ByteArray)(w:World)(hs:s.size<=1048576) :
  Calls Tryz.prog 184 #[.agg #[.int .i64 k,.int .i64 n,.string s]] w fun e w'=>e=.returned (.agg #[.int .i64 k,.int .i64 n,.string s])/\Below w.heap.size w w':=by
 have hbA:Below w.heap.size w ((w.alloc (.cells #[.int .i64 k,.int .i64 n,.string s] 80)).alloc (.cells #[.int .i64 0,.int .i64 0,.string ⟨#[]⟩] 80)):=(b_r.alloc n_l _).alloc (by simp) _;have hI0:=au (al w #[.int .i64 k,.int .i64 n,.string s] 80) (.cells #[.int .i64 0,.int .i64 0,.string ⟨#[]⟩] 80);have hR0:=aA (w.alloc (.cells #[.int .i64 k,.int .i64 n,.string s] 80)) #[.int .i64 0,.int .i64 0,.string ⟨#[]⟩] 80 (w.heap.size+1) (by simp);go_enter Tryz.func184,Tryz.ntmps184
 go_wp2_with fail
 refine (clone_any _ _ hs).mono ?_;rintro e w1 ⟨rfl,hb⟩;have hI1:=ah hI0 hb;have hR1:=ah hR0 hb;have hB:=hbA.trans (hb.mono hbA.size);have i1:=ae hI1;have i2:=aq hI1;have r1:=ae hR1;have r2:=aq hR1;go_wp2;refine bodyPost_ret (v:=.agg #[.int .i64 k,.int .i64 n,.string s]) (by simp[results,Tryz.results184,go_sem,r1]) rfl ⟨rfl,?_⟩;exact (((hB.setCell (by simp) _).setCell (by simp) _).setCell (by simp) _).setCell (by simp) _
structure ApC (hi k:Nat)(cur:Array Value):Prop where
 low:∀i g n c,i<k->cur[i]?=some (.slice (some ⟨g,0,none⟩) n c)->g<hi
 one:∀i j g n m c c',i<k->j<k->cur[i]?=some (.slice (some ⟨g,0,none⟩) n c)->cur[j]?=some (.slice (some ⟨g,0,none⟩) m c')->i=j
theorem ApC.zero(hi:Nat)(cur:Array Value):ApC hi 0 cur:=⟨fun _ _ _ _ h=>absurd h (Nat.not_lt_zero _),fun _ _ _ _ _ _ _ h=>absurd h (Nat.not_lt_zero _)⟩
theorem ApC.mono{hi hi' k:Nat}{cur:Array Value}(h:ApC hi k cur)(hl:hi<=hi'):ApC hi' k cur:=⟨fun i g n c hi h2=>Nat.lt_of_lt_of_le (h.low i g n c hi h2) hl,h.one⟩
theorem ApC.next{hi k g n c:Nat}{cur:Array Value}(h:ApC hi k cur)(hg:hi<=g):ApC (g+1) (k+1) (cur.setIfInBounds k (.slice (some ⟨g,0,none⟩) n c)):=by
 have key:∀i g' n' c',i<k+1->(cur.setIfInBounds k (.slice (some ⟨g,0,none⟩) n c))[i]?=some (.slice (some ⟨g',0,none⟩) n' c')->(i=k/\g'=g)\/(i<k/\cur[i]?=some (.slice (some ⟨g',0,none⟩) n' c')):=fun i g' n' c' hi h2=>by
  by_cases e:i=k
  ·subst e;rw[Array.getElem?_setIfInBounds] at h2;by_cases e2:i<cur.size
   ·simp[e2] at h2
    exact .inl ⟨rfl,h2.1.symm⟩
   ·simp[e2] at h2
  ·right
   rw[Array.getElem?_setIfInBounds,if_neg (fun h=>e h.symm)] at h2;exact⟨by omega,h2⟩
 refine⟨fun i g' n' c' hi h2=>?_,fun i j g' n' m' c' c'' hi hj h2 h3=>?_⟩
 ·rcases key i g' n' c' hi h2 with ⟨-,e⟩ | ⟨h4,h5⟩
  ·omega
  ·have:=h.low i g' n' c' h4 h5;omega
 ·rcases key i g' n' c' hi h2 with ⟨e,e2⟩ | ⟨h4,h5⟩<;>rcases key j g' m' c'' hj h3 with ⟨e',e2'⟩ | ⟨h4',h5'⟩
  ·omega
  ·have:=h.low j g' m' c'' h4' h5';omega
  ·have:=h.low i g' n' c' h4 h5;omega
  ·exact h.one i j g' n' m' c' c'' h4 h4' h5 h5'
theorem ApC.nextI{hi k:Nat}{x:Int}{cur:Array Value}(h:ApC hi k cur):ApC hi (k+1) (cur.setIfInBounds k (.int .i64 x)):=by
 have key:∀i g' n' c',i<k+1->(cur.setIfInBounds k (.int .i64 x))[i]?=some (.slice (some ⟨g',0,none⟩) n' c')->i<k/\cur[i]?=some (.slice (some ⟨g',0,none⟩) n' c'):=fun i g' n' c' hi h2=>by
  by_cases e:i=k
  ·subst e;rw[Array.getElem?_setIfInBounds] at h2;by_cases e2:i<cur.size
   ·simp[e2] at h2
   ·simp[e2] at h2
  ·rw[Array.getElem?_setIfInBounds,if_neg (fun h=>e h.symm)] at h2;exact⟨by omega,h2⟩
 exact⟨fun i g' n' c' hi h2=>h.low i g' n' c' (key _ _ _ _ hi h2).1 (key _ _ _ _ hi h2).2,fun i j g' n' m' c' c'' hi hj h2 h3=>h.one i j g' n' m' c' c'' (key _ _ _ _ hi h2).1 (key _ _ _ _ hj h3).1 (key _ _ _ _ hi h2).2 (key _ _ _ _ hj h3).2⟩
def BlkV (w:World)(g:Nat)(vs:List Vl):Prop:=∃cur:Array Value,w.heap[g]?=some (.cells cur 80 (0,0))/\cur.size=vs.length*3/\∀j (h:j<vs.length),cur[j*3]?=some (.int .i64 vs[j].k)/\cur[j*3+1]?=some (.int .i64 vs[j].n)/\cur[j*3+2]?=some (.string vs[j].s)
theorem BlkV.at{w:World}{g lo:Nat}{vs:List Vl}(h:BlkV w g vs)(hl:lo<=g):aQ w lo (some ⟨g,0,none⟩) vs:=fun j hj=>by
 obtain⟨cur,hblk,-,hd⟩:=h;obtain⟨d1,d2,d3⟩:=hd j hj;exact⟨g,0,rfl,hl,by rw[ae hblk,Nat.zero_add];exact d1,by rw[ae hblk,Nat.zero_add];exact d2,by rw[ae hblk,Nat.zero_add];exact d3⟩
theorem BlkV.mono{w w':World}{g:Nat}{vs:List Vl}(h:BlkV w g vs)(hb:Below w.heap.size w w'):BlkV w' g vs:=by
 obtain⟨cur,hblk,hd⟩:=h;exact⟨cur,ah hblk hb,hd⟩
theorem BlkV.setOther{w:World}{g g' i:Nat}{vs:List Vl}(h:BlkV w g vs)(hg:g≠g')(v:Value):BlkV (w.setCell ⟨g',i,none⟩ v) g vs:=by
 obtain⟨cur,hblk,hd⟩:=h;exact⟨cur,by rw[Below.heap_setCell _ _ _ _ hg];exact hblk,hd⟩
theorem eachV_any(a:Option Addr)(vs:List Vl)(cap:Nat)(w:World)(hs:aE vs)(hm:aQ w 0 a vs) :
  Calls Tryz.prog 254 #[.slice a vs.length cap,.func (.func 184) #[] #[]] w fun e w'=>e=.returned (.slice (some ⟨w.heap.size,0,none⟩) vs.length vs.length)/\BlkV w' w.heap.size vs/\Below w.heap.size w w':=by
 obtain⟨hn,hc⟩:=hs;obtain⟨i0,hi,hz0,hz1,hz2⟩:=info_parts info80;go_enter Tryz.func254,Tryz.ntmps254
 go_wp2_with (first | (at_make;refine wpList_make_full _ rfl _ _ 62 rfl w.heap.size 80 i0 (.agg #[.int .i64 0,.int .i64 0,.string ByteArray.empty]) 3 Tryz.underlying62 hi hz0 hz1 _ _ _ _ vs.length rfl rfl rfl rfl (by rw[hz2];omega) (by unfold maxLen;omega) n_l ?_;intro w1 hown hgrow))
 obtain⟨cur0,hblk,hsz⟩:=aY hown;have hb0:Below w.heap.size w w1:=b_r.grown hgrow n_l (by intro k hk;cases hk);clear hown hgrow hi hz0 hz1 hz2;go_loopw [13] (fun i wr=>∃(k:Nat) (cur:Array Value),k<=vs.length/\i=.int .i64 k/\wr.heap[w.heap.size]?=some (.cells cur 80 (0,0))/\cur.size=vs.length*3/\(∀j (hj:j<vs.length),j<k->cur[j*3]?=some (.int .i64 vs[j].k)/\cur[j*3+1]?=some (.int .i64 vs[j].n)/\cur[j*3+2]?=some (.string vs[j].s))/\Below w.heap.size w wr) (fun i _=>vs.length-(intOf i).toNat)
 case atStart=>exact⟨0,cur0,by omega,rfl,hblk,hsz,fun j _ h=>by omega,hb0⟩
 case round=>
  obtain⟨k,cur,hk,rfl,hblk,hsz,hdone,hb⟩:=hrel;by_cases hlt:k<vs.length
  ·obtain⟨b,off,rfl,-,c1,c2,c3⟩:=hm k hlt;have c1':=cell_later hb c1;have c2':=cell_later hb c2;have c3':=cell_later hb c3;clear c1 c2 c3;have hck:=hc vs[k] (g_m hlt);have hblkA:=au hblk (.cells #[.int .i64 vs[k].k,.int .i64 vs[k].n,.string vs[k].s] 80);have hbA:=hb.alloc hb.size (.cells #[.int .i64 vs[k].k,.int .i64 vs[k].n,.string vs[k].s] 80);go_wp2_with fail
   refine (dy _ _ _ _ hck).mono ?_;rintro e w2 ⟨rfl,hb2⟩;have hblk2:=ah hblkA hb2;have hfz:=aq hblk2;have hcl:w2.cell? ⟨w.heap.size,k*3,none⟩=some cur[k*3]:=by rw[ae hblk2];simp
   have hcl2:w2.cell? ⟨w.heap.size,k*3+1,none⟩=some cur[k*3+1]:=by rw[ae hblk2];simp
   have hcl3:w2.cell? ⟨w.heap.size,k*3+2,none⟩=some cur[k*3+2]:=by rw[ae hblk2];simp
   have hb3:Below w.heap.size w w2:=hbA.trans (hb2.mono hbA.size);go_wp2;go_roundw
   case rel=>
    refine⟨k+1,((cur.setIfInBounds (k*3) (.int .i64 vs[k].k)).setIfInBounds (k*3+1) (.int .i64 vs[k].n)).setIfInBounds (k*3+2) (.string vs[k].s),by omega,by go_num,ak (ak (ak hblk2 _) _) _,by simpa using hsz,?_,((hb3.setCell n_l _).setCell n_l _).setCell n_l _⟩;intro j hj hjk;by_cases e:j=k
    ·subst e;refine⟨?_,?_,?_⟩
     ·rw[aj _ (by omega),aj _ (by omega)];exact aC _ (by omega)
     ·rw[aj _ (by omega)];exact aC _ (by simp;omega)
     ·exact aC _ (by simp;omega)
    ·obtain⟨d1,d2,d3⟩:=hdone j hj (by omega);refine⟨?_,?_,?_⟩
     ·rw[aj _ (by omega),aj _ (by omega),aj _ (by omega)];exact d1
     ·rw[aj _ (by omega),aj _ (by omega),aj _ (by omega)];exact d2
     ·rw[aj _ (by omega),aj _ (by omega),aj _ (by omega)];exact d3
   case measure=>simp[intOf];omega
  ·go_wp2;go_ret
   exact⟨rfl,⟨cur,hblk,hsz,fun j hj=>hdone j hj (by omega)⟩,hb⟩
theorem ownValues_any(a:Option Addr)(vs:List Vl)(cap:Nat)(w:World)(hs:aE vs)(hm:aQ w 0 a vs) :
  Calls Tryz.prog 189 #[.slice a vs.length cap] w fun e w'=>e=.returned (.slice (some ⟨w.heap.size,0,none⟩) vs.length vs.length)/\BlkV w' w.heap.size vs/\Below w.heap.size w w':=by
 go_enter Tryz.func189,Tryz.ntmps189
 go_wp2_with fail
 refine (eachV_any a vs cap w hs hm).mono ?_;rintro e w1 ⟨rfl,h1,h2⟩;have H:Hid (BlkV w1 w.heap.size vs/\Below w.heap.size w w1):=⟨h1,h2⟩;clear h1 h2;go_wp2;go_ret
 exact⟨rfl,H.out.1,H.out.2⟩
theorem aQ.lower{w:World}{lo lo':Nat}{a:Option Addr}{vs:List Vl}(h:aQ w lo a vs)(hl:lo'<=lo):aQ w lo' a vs:=fun j hj=>by
 obtain⟨b,off,e,h0,h1,h2,h3⟩:=h j hj;exact⟨b,off,e,by omega,h1,h2,h3⟩
theorem ownRec_any(a:Option Addr)(vs:List Vl)(cap:Nat)(w:World)(hs:aE vs)(hm:aQ w 0 a vs) :
  Calls Tryz.prog 188 #[.agg #[.slice a vs.length cap]] w fun e w'=>∃b,e=.returned (.agg #[.slice (some ⟨b,0,none⟩) vs.length vs.length])/\w.heap.size<=b/\BlkV w' b vs/\Below w.heap.size w w':=by
 have hbA:Below w.heap.size w ((w.alloc (.cells #[.slice a vs.length cap] 125)).alloc (.cells #[.slice none 0 0] 125)):=(b_r.alloc n_l _).alloc (by simp) _;have x0:=ae (au (al w #[.slice a vs.length cap] 125) (.cells #[.slice none 0 0] 125));have hR0:=aA (w.alloc (.cells #[.slice a vs.length cap] 125)) #[.slice none 0 0] 125 (w.heap.size+1) (by simp);go_enter Tryz.func188,Tryz.ntmps188
 go_wp2_with fail
 refine (ownValues_any a vs cap _ hs (hm.mono hbA)).mono ?_;rintro e w1 ⟨rfl,h1,h2⟩;obtain⟨B,hB⟩:∃B,B=((w.alloc (.cells #[.slice a vs.length cap] 125)).alloc (.cells #[.slice none 0 0] 125)).heap.size:=⟨_,rfl⟩;have hB2:B=w.heap.size+2:=by rw[hB];simp
 rw[<-hB] at h1 h2 ⊢;have hR1:=ah hR0 (by rw[<-hB];exact h2);have r1:=ae hR1;have r2:=aq hR1;have H:Hid (BlkV w1 B vs/\Below w.heap.size w w1/\B=w.heap.size+2):=⟨h1,hbA.trans (h2.mono (by omega)),hB2⟩;clear h1 h2 x0 hB hB2;go_wp2;refine bodyPost_ret (v:=.agg #[.slice (some ⟨B,0,none⟩) vs.length vs.length]) (by simp[results,Tryz.results188,go_sem,r1]) rfl ?_;obtain⟨q1,q2,q3⟩:=H.out;exact⟨B,rfl,by omega,q1.setOther (by omega) _,q2.setCell (by simp) _⟩
structure RowR (w:World)(g lo:Nat)(rs:List (List Vl))(cur:Array Value):Prop where
 blk:w.heap[g]?=some (.cells cur 125 (0,0))
 size:cur.size=rs.length
 each:∀j (h:j<rs.length),∃b,cur[j]?=some (.slice (some ⟨b,0,none⟩) rs[j].length rs[j].length)/\lo<=b/\BlkV w b rs[j]
 ap:ApC w.heap.size rs.length cur
theorem eachR_any(a:Option Addr)(rs:List (List Vl))(cap:Nat)(w:World)(hn:rs.length<=1048576)(hc:∀r∈rs,aE r)(hm:bT w 0 a rs) :
  Calls Tryz.prog 187 #[.slice a rs.length cap,.func (.func 188) #[] #[]] w fun e w'=>∃cur,e=.returned (.slice (some ⟨w.heap.size,0,none⟩) rs.length rs.length)/\RowR w' w.heap.size (w.heap.size+1) rs cur/\Below w.heap.size w w':=by
 obtain⟨i0,hi,hz0,hz1,hz2⟩:=info_parts info125;go_enter Tryz.func187,Tryz.ntmps187
 go_wp2_with (first | (at_make;refine wpList_make_full _ rfl _ _ 59 rfl w.heap.size 125 i0 (.agg #[.slice none 0 0]) 1 Tryz.underlying59 hi hz0 hz1 _ _ _ _ rs.length rfl rfl rfl rfl (by rw[hz2];omega) (by unfold maxLen;omega) n_l ?_;intro w1 hown hgrow))
 obtain⟨cur0,hblk,hsz⟩:=aY hown;have hb0:Below w.heap.size w w1:=b_r.grown hgrow n_l (by intro k hk;cases hk);clear hown hgrow hi hz0 hz1 hz2;go_loopw [13] (fun i wr=>∃(k:Nat) (cur:Array Value),k<=rs.length/\i=.int .i64 k/\wr.heap[w.heap.size]?=some (.cells cur 125 (0,0))/\cur.size=rs.length/\(∀j (hj:j<rs.length),j<k->∃b,cur[j]?=some (.slice (some ⟨b,0,none⟩) rs[j].length rs[j].length)/\w.heap.size+1<=b/\BlkV wr b rs[j])/\ApC wr.heap.size k cur/\Below w.heap.size w wr) (fun i _=>rs.length-(intOf i).toNat)
 case atStart=>exact⟨0,cur0,by omega,rfl,hblk,by simpa using hsz,fun j _ h=>by omega,ApC.zero _ _,hb0⟩
 case round=>
  obtain⟨k,cur,hk,rfl,hblk,hsz,hdone,hAp,hb⟩:=hrel;have HAp:Hid (ApC wr.heap.size k cur):=hAp;clear hAp;by_cases hlt:k<rs.length
  ·obtain⟨b,off,fa,fc,rfl,-,c1,c2⟩:=hm k hlt;have c1':=cell_later hb c1;clear c1;have hck:=hc rs[k] (g_m hlt);have hblkA:=au hblk (.cells #[.slice fa rs[k].length fc] 125);have hbA:=hb.alloc hb.size (.cells #[.slice fa rs[k].length fc] 125);have HD:=hdone;clear hdone;go_wp2_with fail
   refine (ownRec_any fa rs[k] fc _ hck (c2.mono hbA)).mono ?_;rintro e w2 ⟨nb,rfl,hnb,hv,hb2⟩;have hblk2:=ah hblkA hb2;have hfz:=aq hblk2;have hcl:w2.cell? ⟨w.heap.size,k,none⟩=some cur[k]:=by rw[ae hblk2];simp
   have hb3:Below w.heap.size w w2:=hbA.trans (hb2.mono hbA.size);have hws:w.heap.size+1<=(wr.alloc (.cells #[.slice fa rs[k].length fc] 125)).heap.size:=by have:=ay hblkA;omega
   have HV:Hid (BlkV w2 nb rs[k]/\w.heap.size+1<=nb):=⟨hv,Nat.le_trans hws hnb⟩;have HA2:Hid (ApC w2.heap.size (k+1) (cur.setIfInBounds k (.slice (some ⟨nb,0,none⟩) rs[k].length rs[k].length))):=by
    obtain⟨cv,hcv,-⟩:=hv;refine (HAp.out.next (g:=nb) ?_).mono (ay hcv)
    have:wr.heap.size<=(wr.alloc (.cells #[.slice fa rs[k].length fc] 125)).heap.size:=by simp
    omega
   have HO:Hid (∀j (hj:j<rs.length),j<k->∃b,cur[j]?=some (.slice (some ⟨b,0,none⟩) rs[j].length rs[j].length)/\w.heap.size+1<=b/\BlkV w2 b rs[j]):=fun j hj hjk=>by
    obtain⟨b,q1,q2,q3⟩:=HD j hj hjk;exact⟨b,q1,q2,(q3.mono (b_r.alloc n_l _)).mono hb2⟩
   clear HD hv hnb hws hblkA hbA hb2;go_wp2;go_roundw
   case rel=>
    refine⟨k+1,cur.setIfInBounds k (.slice (some ⟨nb,0,none⟩) rs[k].length rs[k].length),by omega,by go_num,ak hblk2 _,by simpa using hsz,?_,by have:=HA2.out;simpa using this,hb3.setCell n_l _⟩;intro j hj hjk;by_cases e:j=k
    ·subst e;exact⟨nb,aC _ (by omega),HV.out.2,HV.out.1.setOther (by have:=HV.out.2;omega) _⟩
    ·obtain⟨b,d1,d2,d3⟩:=HO.out j hj (by omega);exact⟨b,by rw[aj _ e];exact d1,d2,d3.setOther (by omega) _⟩
   case measure=>simp[intOf];omega
  ·have HD:Hid (RowR wr w.heap.size (w.heap.size+1) rs cur):=⟨hblk,hsz,fun j hj=>hdone j hj (by omega),(show k=rs.length by omega)▸HAp.out⟩
   clear hdone;go_wp2;go_ret
   exact⟨cur,rfl,HD.out,hb⟩
theorem ownHeap_any(a:Option Addr)(rs:List (List Vl))(cap:Nat)(w:World)(hn:rs.length<=1048576)(hc:∀r∈rs,aE r)(hm:bT w 0 a rs) :
  Calls Tryz.prog 137 #[.slice a rs.length cap] w fun e w'=>∃cur,e=.returned (.slice (some ⟨w.heap.size,0,none⟩) rs.length rs.length)/\RowR w' w.heap.size (w.heap.size+1) rs cur/\Below w.heap.size w w':=by
 go_enter Tryz.func137,Tryz.ntmps137
 go_wp2_with fail
 refine (eachR_any a rs cap w hn hc hm).mono ?_;rintro e w1 ⟨cur,rfl,h1,h2⟩;have H:Hid (RowR w1 w.heap.size (w.heap.size+1) rs cur/\Below w.heap.size w w1):=⟨h1,h2⟩;clear h1 h2;go_wp2;go_ret
 exact⟨cur,rfl,H.out.1,H.out.2⟩
end Go.Proofs.YtbjmgmmekmfjhaaGreatDoor
