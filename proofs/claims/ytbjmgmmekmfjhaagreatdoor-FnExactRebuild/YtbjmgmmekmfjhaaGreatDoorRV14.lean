/- RV14 -/
import Derived.Test.YtbjmgmmekmfjhaaGreatDoorRV13
import Derived.Test.YtbjmgmmekmfjhaaGreatDoorRV12
import Derived.Test.YtbjmgmmekmfjhaaGreatDoorRV8
set_option maxHeartbeats 32000000
set_option maxRecDepth 100000
namespace Go.Proofs.YtbjmgmmekmfjhaaGreatDoor
open Go.RowKit
def okB (nf:Nat)(r:Int)(v:Vl):Bool:=valB v.k v.n v.s nf r
def bY (vs:List Vl)(nf:Nat)(r:Int):Bool:=vs.all (okB nf r)
def ia (b:Bool)(e:Ending):Prop:=∃i:Int,e=.returned (.int .i64 i)/\(0<=i↔b=false)
theorem cJ(a:Option Addr)(vs:List Vl)(cap:Nat)(r:Int)(a1 a2:Option Addr)(nt c1 nf c2:Nat)(w:World)(hnf:nf<=1048576)(hs:aE vs)(hm:aQ w 0 a vs) :
  Calls Tryz.prog 73 #[.agg #[.slice a1 nt c1,.slice a2 nf c2],.slice a vs.length cap,.int .i64 r] w fun e w'=>e=.returned (.bool (bY vs nf r))/\Below w.heap.size w w':=by
 obtain⟨hn,hc⟩:=hs;have hbA:Below w.heap.size w (w.alloc (.cells #[.slice a1 nt c1,.slice a2 nf c2] 36)):=b_r.alloc n_l _;have hM0:=al w #[.slice a1 nt c1,.slice a2 nf c2] 36;go_enter Tryz.func73,Tryz.ntmps73
 go_wp2;go_loopw [7] (fun i wr=>∃(k:Nat),k<=vs.length/\i=.int .i64 k/\Hid ((vs.take k).all (okB nf r)=true)/\wr.heap[w.heap.size]?=some (.cells #[.slice a1 nt c1,.slice a2 nf c2] 36 (0,0))/\Below w.heap.size w wr) (fun i _=>vs.length-(intOf i).toNat)
 case atStart=>exact⟨0,by omega,rfl,rfl,hM0,hbA⟩
 case round=>
  obtain⟨k,hk,rfl,hall,hM,hb⟩:=hrel;clear hM0 hbA;by_cases hlt:k<vs.length
  ·obtain⟨b,off,rfl,-,d1,d2,d3⟩:=hm k hlt;have hck:=hc vs[k] (g_m hlt);have d1':=cell_later hb d1;have d2':=cell_later hb d2;have d3':=cell_later hb d3;clear d1 d2 d3
   have hS:∀w',Below wr.heap.size wr w'->w'.cell? ⟨w.heap.size,0,none⟩=some (.slice a1 nt c1)/\w'.cell? ⟨w.heap.size,1,none⟩=some (.slice a2 nf c2)/\w'.cell? ⟨b,off+k*3,none⟩=some (.int .i64 vs[k].k)/\w'.cell? ⟨b,off+k*3+1,none⟩=some (.int .i64 vs[k].n)/\w'.cell? ⟨b,off+k*3+2,none⟩=some (.string vs[k].s):=fun w' hb=>
    ⟨ckb hM hb rfl,ckb hM hb rfl,cell_later hb d1',cell_later hb d2',cell_later hb d3'⟩
   have HS:Hid (∀w',Below wr.heap.size wr w'->w'.cell? ⟨w.heap.size,0,none⟩=some (.slice a1 nt c1)/\w'.cell? ⟨w.heap.size,1,none⟩=some (.slice a2 nf c2)/\w'.cell? ⟨b,off+k*3,none⟩=some (.int .i64 vs[k].k)/\w'.cell? ⟨b,off+k*3+1,none⟩=some (.int .i64 vs[k].n)/\w'.cell? ⟨b,off+k*3+2,none⟩=some (.string vs[k].s)):=hS;obtain⟨j0,j1,j2,j3,j4⟩:=hS wr b_r;have q:Below wr.heap.size wr wr.drew:=b_r.drew;have HB:Hid (Below w.heap.size w wr):=hb;have HM:Hid (wr.heap[w.heap.size]?=some (.cells #[.slice a1 nt c1,.slice a2 nf c2] 36 (0,0))):=hM;clear hS hb hM d1' d2' d3';by_cases ho:valB vs[k].k vs[k].n vs[k].s nf r=true
   ·have HO:Hid (valB vs[k].k vs[k].n vs[k].s nf r=true):=ho;have hob:(!valB vs[k].k vs[k].n vs[k].s nf r)=false:=by rw[ho];rfl
    go_wp2
    go_region_held3 (fun w'=>w'.cell? ⟨w.heap.size,0,none⟩=some (.slice a1 nt c1)/\w'.cell? ⟨w.heap.size,1,none⟩=some (.slice a2 nf c2)/\w'.cell? ⟨b,off+k*3,none⟩=some (.int .i64 vs[k].k)/\w'.cell? ⟨b,off+k*3+1,none⟩=some (.int .i64 vs[k].n)/\w'.cell? ⟨b,off+k*3+2,none⟩=some (.string vs[k].s))
     (first | exact⟨j0,j1,j2,j3,j4⟩ | exact HS.out _ q)
     (first
      | (go_at_call 120;refine (fj _ _ _ _ _ _ _ _ _ _ _ hnf hck).mono ?_;rintro e w5 ⟨rfl,kd⟩;have q:=q.trans (kd.mono q.size)))
    have hM5:=ah HM.out q;have hB5:=HB.out.trans (q.mono HB.out.size);clear HM HB HS j0 j1 j2 j3 j4 q kd;go_wp2;go_roundw
    case rel=>exact⟨k+1,by omega,by go_num,b8 hlt hall.out HO.out,hM5,hB5⟩
    case measure=>simp[intOf];omega
   ·have ho':valB vs[k].k vs[k].n vs[k].s nf r=false:=by simpa using ho
    have HO:Hid (valB vs[k].k vs[k].n vs[k].s nf r=false):=ho';have hob:(!valB vs[k].k vs[k].n vs[k].s nf r)=true:=by rw[ho'];rfl
    clear ho;go_wp2
    go_region_held3 (fun w'=>w'.cell? ⟨w.heap.size,0,none⟩=some (.slice a1 nt c1)/\w'.cell? ⟨w.heap.size,1,none⟩=some (.slice a2 nf c2)/\w'.cell? ⟨b,off+k*3,none⟩=some (.int .i64 vs[k].k)/\w'.cell? ⟨b,off+k*3+1,none⟩=some (.int .i64 vs[k].n)/\w'.cell? ⟨b,off+k*3+2,none⟩=some (.string vs[k].s))
     (first | exact⟨j0,j1,j2,j3,j4⟩ | exact HS.out _ q)
     (first
      | (go_at_call 120;refine (fj _ _ _ _ _ _ _ _ _ _ _ hnf hck).mono ?_;rintro e w5 ⟨rfl,kd⟩;have q:=q.trans (kd.mono q.size)))
    have hM5:=ah HM.out q;have hB5:=HB.out.trans (q.mono HB.out.size);clear HM HB HS j0 j1 j2 j3 j4 q kd;go_wp2;go_ret
    exact⟨ax (show bY vs nf r=false from cT hlt HO.out).symm,hB5⟩
  ·go_wp2;go_ret
   exact⟨ax (show bY vs nf r=true from cD (by omega) hall.out).symm,hb⟩
def a7 (w:World)(g n:Nat):Prop:=∃cur:Array Value,w.heap[g]?=some (Obj.cells cur 80 (0,0))/\cur.size=n*3
theorem a7.mono{w w':World}{g n:Nat}(h:a7 w g n)(hb:Below w.heap.size w w'):a7 w' g n:=by
 obtain⟨c,h1,h2⟩:=h;exact⟨c,ah h1 hb,h2⟩
theorem info80:(Tryz.prog.info? 80).map (fun i=>(i.zero,i.size,i.bytes))=some (some (.agg #[.int .i64 0,.int .i64 0,.string ByteArray.empty]),3,32):=by kernel_rfl
theorem info125:(Tryz.prog.info? 125).map (fun i=>(i.zero,i.size,i.bytes))=some (some (.agg #[.slice none 0 0]),1,24):=by kernel_rfl
theorem info136:(Tryz.prog.info? 136).map (fun i=>(i.zero,i.size,i.bytes))=some (some (.agg #[.int .i64 0,.int .i64 0,.slice none 0 0,.slice none 0 0]),4,64):=by kernel_rfl
open Classical in
noncomputable def dep (fs:List Fn) (code:List (Int×Int)):List Int:=if h:∃d,Done fs code d then h.choose else []
theorem gI{fs:List Fn}{code:List (Int×Int)}{d:List Int}(h:Done fs code d):dep fs code=d:=by
 have hx:∃d,Done fs code d:=⟨d,h⟩;unfold dep;rw[dif_pos hx];exact hx.choose_spec.one h
def fnAt (fs:List Fn)(f:Int):Fn:=fs.getD f.toNat ⟨0,0,[]⟩
theorem dV{fs:List Fn}{i:Nat}(h:i<fs.length):fnAt fs (i:Int)=fs[i]:=by
 unfold fnAt;rw[Int.toNat_natCast,List.getD_eq_getElem?_getD,List.getElem?_eq_getElem h];rfl
noncomputable def ht (fs:List Fn) (f pc:Int):Int:=(dep fs (fnAt fs f).code).getD pc.toNat (-1)
def opAt (fs:List Fn)(f pc:Int):Int:=((fnAt fs f).code.getD pc.toNat (0,0)).1
theorem gU{fs:List Fn}{i p:Nat}(h:i<fs.length){d:List Int}(hD:Done fs fs[i].code d)(hp:p<d.length):ht fs (i:Int) (p:Int)=d[p]:=by
 unfold ht;rw[dV h,gI hD,Int.toNat_natCast,List.getD_eq_getElem?_getD,List.getElem?_eq_getElem hp];rfl
theorem opAt_of{fs:List Fn}{i p:Nat}(h:i<fs.length)(hp:p<fs[i].code.length):opAt fs (i:Int) (p:Int)=fs[i].code[p].1:=by
 unfold opAt;rw[dV h,Int.toNat_natCast,List.getD_eq_getElem?_getD,List.getElem?_eq_getElem hp];rfl
def Fits (fs:List Fn)(f pc nl ns:Int)(last:Bool):Prop:=0<=f/\f<(fs.length:Int)/\nl=(fnAt fs f).locals/\0<=pc/\pc<((fnAt fs f).code.length:Int)/\0<=ht fs f pc /\
 ((last=true/\ns=ht fs f pc)\/(last=false/\1<=pc/\0<=ht fs f (pc-1)/\(opAt fs f (pc-1)=23\/opAt fs f (pc-1)=24)/\ns=ht fs f pc-1))
def Says (P:Prop)(e:Ending):Prop:=∃b:Bool,e=.returned (.bool b)/\(b=true↔P)
theorem Says.no{P:Prop}{e:Ending}(he:e=.returned (.bool false))(h:¬P):Says P e:=⟨false,he,by simpa using h⟩
section
variable {fs:List Fn} {i p:Nat} {nl ns:Int} {last:Bool} {d:List Int}
theorem gw{f pc:Int}(h:f<0\/(fs.length:Int)<=f):¬Fits fs f pc nl ns last:=fun ⟨h1,h2,_⟩=>by omega
theorem fits_locals{pc:Int}(hi:i<fs.length)(h:nl≠fs[i].locals):¬Fits fs i pc nl ns last:=fun ⟨_,_,h3,_⟩=>by rw[dV hi] at h3;exact h h3
theorem gu{pc:Int}(hi:i<fs.length)(h:pc<0\/(fs[i].code.length:Int)<=pc):¬Fits fs i pc nl ns last:=fun ⟨_,_,_,h4,h5,_⟩=>by rw[dV hi] at h5;omega
theorem fits_none(hi:i<fs.length)(hD:Done fs fs[i].code d)(hp:p<d.length)(h:d[p]<0):¬Fits fs i p nl ns last:=fun ⟨_,_,_,_,_,h6,_⟩=>by rw[gU hi hD hp] at h6;omega
theorem fits_last(hi:i<fs.length)(hD:Done fs fs[i].code d)(hp:p<d.length)(hl:d.length=fs[i].code.length)(hn:nl=fs[i].locals)(h:0<=d[p]):Fits fs i p nl ns true↔ns=d[p]:=by
 unfold Fits;rw[gU hi hD hp,dV hi];constructor
 ·rintro⟨-,-,-,-,-,-,⟨-,h⟩ | ⟨h,-⟩⟩
  ·exact h
  ·cases h
 ·intro e;exact⟨by omega,by omega,hn,by omega,by omega,h,.inl ⟨rfl,e⟩⟩
theorem fits_first:¬Fits fs i ((0:Nat):Int) nl ns false:=by
 rintro⟨-,-,-,-,-,-,⟨h,-⟩ | ⟨-,h,-⟩⟩
 ·cases h
 ·omega
theorem cq(hi:i<fs.length)(hD:Done fs fs[i].code d)(hp:p+1<d.length)(hl:d.length=fs[i].code.length)(hn:nl=fs[i].locals)(h:0<=d[p+1]) :
  Fits fs i ((p+1:Nat):Int) nl ns false↔(0<=d[p]/\(fs[i].code[p].1=23\/fs[i].code[p].1=24)/\ns=d[p+1]-1):=by
 unfold Fits;rw[gU hi hD hp,show ((p+1:Nat):Int)-1=(p:Int) by omega,gU hi hD (by omega),opAt_of hi (by omega),dV hi]
 constructor
 ·rintro⟨-,-,-,-,-,-,⟨h,-⟩ | ⟨-,-,h1,h2,h3⟩⟩
  ·cases h
  ·exact⟨h1,h2,h3⟩
 ·rintro⟨h1,h2,h3⟩;exact⟨by omega,by omega,hn,by omega,by omega,h,.inr ⟨rfl,by omega,h1,h2,h3⟩⟩
end
theorem vl_eq{v u:Vl}:v=u↔v.k=u.k/\v.n=u.n/\v.s=u.s:=by
 cases v;cases u;simp
theorem bytes_eq(a b:ByteArray):(a.toList == b.toList)=pB (a=b):=by
 rw[Bool.eq_iff_iff];simp only[beq_iff_eq,pB,decide_eq_true_eq]
 rw[ByteArray.toList_eq,ByteArray.toList_eq];obtain⟨⟨x⟩⟩:=a;obtain⟨⟨y⟩⟩:=b;simp
theorem guard36:Tryz.prog.eqGuardType Tryz.prog.depth 80=false:=by kernel_rfl
theorem gT(v u:Vl)(W:World):(Op.equalIn 10000 80 (.agg #[.int .i64 v.k,.int .i64 v.n,.string v.s]) (.agg #[.int .i64 u.k,.int .i64 u.n,.string u.s])).run Tryz.prog W=.ok (pB (v=u)) W:=by
 have h:∀d:Nat,(Op.equalIn (d+1+1) 80 (.agg #[.int .i64 v.k,.int .i64 v.n,.string v.s]) (.agg #[.int .i64 u.k,.int .i64 u.n,.string u.s])).run Tryz.prog W=.ok (pB (v=u)) W:=fun d=>by
  have ht:Tryz.prog.underlying 80=some (.struct (Tryz.prog.fieldsOf 80)):=by kernel_rfl
  have hp:Tryz.prog.stoodInHeld 80=false:=by kernel_rfl
  have hf : (Tryz.prog.fieldsOf 80).toList.map (fun f => (f.name, f.type, f.offset)) = [("Kind", 3, 0), ("N", 3, 1), ("S", 9, 2)] := by kernel_rfl
  rw[run_equalIn_struct W (d+1) 80 _ _ ht hp];have p0:∀(a b:Int) (s:ByteArray) (W:World),(part 3 #[.int .i64 a,.int .i64 b,.string s] 0).run Tryz.prog W=.ok (.int .i64 a) W:=fun _ _ _ _=>by kernel_rfl
  have p1:∀(a b:Int) (s:ByteArray) (W:World),(part 3 #[.int .i64 a,.int .i64 b,.string s] 1).run Tryz.prog W=.ok (.int .i64 b) W:=fun _ _ _ _=>by kernel_rfl
  have p2:∀(a b:Int) (s:ByteArray) (W:World),(part 9 #[.int .i64 a,.int .i64 b,.string s] 2).run Tryz.prog W=.ok (.string s) W:=fun _ _ _ _=>by kernel_rfl
  rcases hL:(Tryz.prog.fieldsOf 80).toList with _ | ⟨f1,_ | ⟨f2,_ | ⟨f3,_ | _⟩⟩⟩
  ·rw[hL] at hf;simp at hf
  ·rw[hL] at hf;simp at hf
  ·rw[hL] at hf;simp at hf
  ·rw[hL] at hf;simp only[List.map_cons,List.map_nil,List.cons.injEq,Prod.mk.injEq,and_true] at hf
   obtain⟨⟨n1,t1,o1⟩,⟨n2,t2,o2⟩,n3,t3,o3⟩:=hf;have e1:=run_equalIn_int (P:=Tryz.prog) W d 3 .i64 .i64 v.k u.k Tryz.underlying3;have e2:=run_equalIn_int (P:=Tryz.prog) W d 3 .i64 .i64 v.n u.n Tryz.underlying3;have e3:=run_equalIn_string (P:=Tryz.prog) W d 9 v.s u.s Tryz.underlying9;rw[gQ] at e1 e2;rw[bytes_eq] at e3;have hb:pB (v=u)=(pB (v.k=u.k) && (pB (v.n=u.n) && pB (v.s=u.s))):=by
    rw[<-fI,<-fI,show (v=u)=(v.k=u.k/\v.n=u.n/\v.s=u.s) from propext vl_eq]
   rw[hb]
   cases hk:pB (v.k=u.k)<;>cases hn:pB (v.n=u.n)<;>cases hs:pB (v.s=u.s)<;>rw[hk] at e1<;>rw[hn] at e2<;>rw[hs] at e3 <;>
    simp[Op.eqFields,n1,t1,o1,n2,t2,o2,n3,t3,o3,p0,p1,p2,e1,e2,e3]
  ·rw[hL] at hf;simp at hf
 exact h 9998
end Go.Proofs.YtbjmgmmekmfjhaaGreatDoor
