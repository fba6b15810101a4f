/-
The Ops of the ops that come from an instruction, as a list; two places compared.
What impl.OpsAt returns.
What spec.OpsAt returns.
What the laws' functions over slices of numbers (eqIntS, markIntS, heldIntS) return.
-/
import Derived.Test.YthnolafhnplnkaaGreatDoorOV37
import Derived.Test.YthnolafhnplnkaaGreatDoorOV23
import Derived.Test.YthnolafhnplnkaaGreatDoorOV12
import Derived.Test.YthnolafhnplnkaaGreatDoorOV25
import Derived.Deep.RegionHeld3
import Derived.Deep.CutRange
import Derived.Test.YthnolafhnplnkaaGreatDoorOV24
set_option maxRecDepth 100000
namespace Go.Proofs.YthnolafhnplnkaaGreatDoor
open Go.RowKit
theorem hido {p : Prop} (h : p) : Hid p := h
theorem own_blw {w w' : World} {B e size n : Nat} {v : Value} {xs : List Value} (h : w.ownsRow B e size v n xs) (hb : Below w.heap.size w w') : w'.ownsRow B e size v n xs := by
 refine ⟨h.1, ?_⟩
 rcases h.2 with ⟨e, hn⟩ | ⟨b, cap, cur, e, hb', hh, r⟩
 · exact .inl ⟨e, hn⟩
 · exact .inr ⟨b, cap, cur, e, hb', block_kept hh hb, r⟩
def opsT (D : FastD) (f p : Int) (k : Nat) : List Int := ((D.ops.take k).filter (fun o => decide (o.f = f ∧ o.p = p))).map Fo.op
theorem opsT_hit (D : FastD) (f p : Int) (k : Nat) (h : k < D.ops.length) (he : D.ops[k].f = f ∧ D.ops[k].p = p) : opsT D f p (k + 1) = opsT D f p k ++ [D.ops[k].op] := by
 unfold opsT
 rw [List.take_succ_eq_append_getElem h, List.filter_append, List.map_append]
 simp [he]
theorem opsT_miss (D : FastD) (f p : Int) (k : Nat) (h : k < D.ops.length) (he : ¬ (D.ops[k].f = f ∧ D.ops[k].p = p)) : opsT D f p (k + 1) = opsT D f p k := by
 unfold opsT
 rw [List.take_succ_eq_append_getElem h, List.filter_append, List.map_append]
 simp [he]
theorem opsT_len (D : FastD) (f p : Int) (k : Nat) : (opsT D f p k).length ≤ k := by
 unfold opsT
 rw [List.length_map]
 exact Nat.le_trans (List.length_filter_le _ _) (by rw [List.length_take]; omega)
def OpsA (ts : List ByteArray) (fs : List Fn) (D : FastD) (f p : Int) (S : List Int) : Prop := (FastP ts fs D ∧ S = opsT D f p D.ops.length) ∨ (¬ FastP ts fs D ∧ S = [])
theorem OpsA.one {ts : List ByteArray} {fs : List Fn} {D : FastD} {f p : Int} {S S' : List Int} (h : OpsA ts fs D f p S) (h' : OpsA ts fs D f p S') : S' = S := by
 rcases h with ⟨h1, rfl⟩ | ⟨h1, rfl⟩
 ·
  rcases h' with ⟨-, rfl⟩ | ⟨k1, -⟩
  · rfl
  · exact absurd h1 k1
 ·
  rcases h' with ⟨k1, -⟩ | ⟨-, rfl⟩
  · exact absurd k1 h1
  · rfl
theorem fast_ops {ts : List ByteArray} {fs : List Fn} {D : FastD} (h : FastP ts fs D) : D.ops.length ≤ 1500 := h.2.2.1.1.2
theorem OpsA.len {ts : List ByteArray} {fs : List Fn} {D : FastD} {f p : Int} {S : List Int} (h : OpsA ts fs D f p S) : S.length ≤ 1048576 := by
 rcases h with ⟨h1, rfl⟩ | ⟨-, rfl⟩
 · exact Nat.le_trans (opsT_len _ _ _ _) (Nat.le_trans (fast_ops h1) (by decide))
 · simp
def OpsPost (ts : List ByteArray) (fs : List Fn) (D : FastD) (f p : Int) (w : World) : Ending → World → Prop := fun e w' => ∃ v S, e = .returned v ∧ OpsA ts fs D f p S ∧ DSl w' w.heap.size v S ∧ Below w.heap.size w w'
theorem guardPl : Tryz.prog.eqGuardType Tryz.prog.depth 64 = false := by kernel_rfl
theorem eqInPl (a b c e : Int) (W : World) : (Op.equalIn 10000 64 (.agg #[.int .i64 a, .int .i64 b]) (.agg #[.int .i64 c, .int .i64 e])).run Tryz.prog W = .ok (pB (a = c ∧ b = e)) W := by
 have h : ∀ d : Nat, (Op.equalIn (d + 1 + 1) 64 (.agg #[.int .i64 a, .int .i64 b]) (.agg #[.int .i64 c, .int .i64 e])).run Tryz.prog W = .ok (pB (a = c ∧ b = e)) W := fun d => by
  have ht : Tryz.prog.underlying 64 = some (.struct (Tryz.prog.fieldsOf 64)) := by kernel_rfl
  have hp : Tryz.prog.stoodInHeld 64 = false := by kernel_rfl
  have hf : (Tryz.prog.fieldsOf 64).toList.map (fun f => (f.name, f.type, f.offset)) = [("fn", 3, 0), ("pc", 3, 1)] := by kernel_rfl
  rw [run_equalIn_struct W (d + 1) 64 _ _ ht hp]
  have p0 : ∀ (a b : Int) (W : World), (part 3 #[.int .i64 a, .int .i64 b] 0).run Tryz.prog W = .ok (.int .i64 a) W := fun _ _ _ => by kernel_rfl
  have p1 : ∀ (a b : Int) (W : World), (part 3 #[.int .i64 a, .int .i64 b] 1).run Tryz.prog W = .ok (.int .i64 b) W := fun _ _ _ => by kernel_rfl
  rcases hL : (Tryz.prog.fieldsOf 64).toList with _ | ⟨f1, _ | ⟨f2, _ | _⟩⟩
  · rw [hL] at hf; simp at hf
  · rw [hL] at hf; simp at hf
  ·
   rw [hL] at hf
   simp only [List.map_cons, List.map_nil, List.cons.injEq, Prod.mk.injEq, and_true] at hf
   obtain ⟨⟨n1, t1, o1⟩, n2, t2, o2⟩ := hf
   have e1 := run_equalIn_int (P := Tryz.prog) W d 3 .i64 .i64 a c Tryz.underlying3
   have e2 := run_equalIn_int (P := Tryz.prog) W d 3 .i64 .i64 b e Tryz.underlying3
   rw [int_eq] at e1 e2
   have hb : pB (a = c ∧ b = e) = (pB (a = c) && pB (b = e)) := pB_and _ _
   rw [hb]
   cases hk : pB (a = c) <;> cases hn : pB (b = e) <;> rw [hk] at e1 <;> rw [hn] at e2 <;>
    simp [Op.eqFields, n1, t1, o1, n2, t2, o2, p0, p1, e1, e2]
  · rw [hL] at hf; simp at hf
 exact h 9998
set_option maxHeartbeats 4000000 in
theorem iOps_any (a1 a2 oa ea : Option Addr) (c1 c2 oc ec : Nat) (ts : List ByteArray) (fs : List Fn) (D : FastD) (f p : Int) (w : World) (hs : Small ts fs) (hd : FastSmall D) (hm : StrsAt w 0 a1 ts) (hm2 : FnsAt w 0 a2 fs) (hf : FastAt w 0 oa ea D) (hsh : ShAt w) (hDB : DB w) :
  Calls Tryz.prog 9 #[.agg #[.slice a1 ts.length c1, .slice a2 fs.length c2], .agg (fastCells oa ea oc ec D), .int .i64 f, .int .i64 p] w (OpsPost ts fs D f p w) := by
 obtain ⟨w0, hw0⟩ : ∃ w0, w0 = (w.alloc (.cells #[.slice a1 ts.length c1, .slice a2 fs.length c2] 36)).alloc (.cells #[.int .i64 D.fn, .int .i64 D.entry, .int .i64 D.vals, .int .i64 D.nums, .slice oa D.ops.length oc, .slice ea D.exits.length ec] 41) := ⟨_, rfl⟩
 have hb0 : Below w.heap.size w w0 := by rw [hw0]; exact ((Below.refl _ _).alloc (Nat.le_refl _) _).alloc (by simp) _
 have hF0 : w0.heap[w.heap.size + 1]? = some (.cells #[.int .i64 D.fn, .int .i64 D.entry, .int .i64 D.vals, .int .i64 D.nums, .slice oa D.ops.length oc, .slice ea D.exits.length ec] 41 (0, 0)) := by rw [hw0]; exact block_new_at _ _ _ _ (by simp)
 have hfo := iFastOk_any a1 a2 oa ea c1 c2 oc ec ts fs D w0 hs hd (hm.mono hb0) (hm2.mono hb0) (hf.mono hb0) (hsh.mono hb0) (hDB.mono hb0)
 unfold fastCells at hfo ⊢
 obtain ⟨i0, hi, hz0, hz1, hz2⟩ := info_parts info3
 go_enter Tryz.func9, Tryz.ntmps9
 go_wp2_with fail
 rw [← hw0]
 refine hfo.mono ?_
 clear hfo hw0
 rintro e w1 ⟨rfl, hb1⟩
 have hB1 := hb0.trans (hb1.mono hb0.size)
 have hF1 := block_kept hF0 hb1
 clear hF0 hb0 hb1 hsh hDB hm hm2
 by_cases hP : FastP ts fs D
 case neg =>
  rw [pB_no hP]
  have HN := hido hP
  clear hP
  go_wp2
  go_ret
  unfold OpsPost
  exact ⟨_, [], rfl, .inr ⟨HN.out, rfl⟩, .inl ⟨rfl, _, _, rfl⟩, hB1⟩
 rw [pB_yes hP]
 have HP : Hid (FastP ts fs D) := hP
 have hol : D.ops.length ≤ 1500 := fast_ops hP
 clear hP
 obtain ⟨w2, hw2⟩ : ∃ w2, w2 = w1.alloc (.cells #[.int .i64 f, .int .i64 p] 64) := ⟨_, rfl⟩
 have hB2 : Below w.heap.size w w2 := by rw [hw2]; exact hB1.alloc hB1.size _
 have hF2 : w2.heap[w.heap.size + 1]? = some (.cells #[.int .i64 D.fn, .int .i64 D.entry, .int .i64 D.vals, .int .i64 D.nums, .slice oa D.ops.length oc, .slice ea D.exits.length ec] 41 (0, 0)) := by rw [hw2]; exact block_old hF1 _
 have hA2 : w2.heap[w1.heap.size]? = some (.cells #[.int .i64 f, .int .i64 p] 64 (0, 0)) := by rw [hw2]; exact block_new _ _ _
 have y1 := block_cell (block_old hF1 (.cells #[.int .i64 f, .int .i64 p] 64))
 have y0 := block_cell hF1
 have hO0 : w2.ownsRow w.heap.size 3 1 (.slice none 0 0) 0 (([] : List Int).map (Value.int .i64)) := ⟨rfl, .inl ⟨rfl, rfl⟩⟩
 go_wp2
 rw [← hw2]
 clear hw2 y1 y0 hF1 hB1
 obtain ⟨gp, hgp⟩ : ∃ gp, gp = w1.heap.size := ⟨_, rfl⟩
 rw [← hgp] at hA2 ⊢
 clear hgp
 go_loopw [10, 23] (fun q i wr => ∃ (k : Nat), k ≤ D.ops.length ∧ i = .int .i64 k ∧ (∃ xa cap, q = .slice xa (opsT D f p k).length cap) ∧ wr.ownsRow w.heap.size 3 1 q (opsT D f p k).length ((opsT D f p k).map (Value.int .i64)) ∧ Hid (wr.heap[gp]? = some (.cells #[.int .i64 f, .int .i64 p] 64 (0, 0))) ∧ Hid (Below w.heap.size w wr)) (fun _ i _ => D.ops.length - (intOf i).toNat)
 case atStart => exact ⟨0, by omega, rfl, ⟨_, _, rfl⟩, hO0, hA2, hB2⟩
 case round =>
  obtain ⟨k, hk, rfl, ⟨xa, cap, rfl⟩, hown, HG, HB⟩ := hrel
  clear hO0 hB2 hF2 hA2
  have hln : (opsT D f p k).length ≤ 1500 := Nat.le_trans (opsT_len _ _ _ _) (by omega)
  by_cases hlt : k < D.ops.length
  case neg =>
   obtain rfl : k = D.ops.length := by omega
   have z2 : ¬ (D.ops.length : Int) < (D.ops.length : Int) := by omega
   have HR : Hid (DSl wr w.heap.size (.slice xa (opsT D f p D.ops.length).length cap) (opsT D f p D.ops.length)) := own_dsl hown rfl
   clear hown
   go_wp2
   go_ret
   unfold OpsPost
   exact ⟨_, _, rfl, .inl ⟨HP.out, rfl⟩, HR.out, HB.out⟩
  have zk : (k : Int) < (D.ops.length : Int) := by omega
  obtain ⟨be, oe, hea, -, e0, e1, e2, e3, e4, e5, e6, e7, e8, e9⟩ := hf.ops k hlt
  subst hea
  have f0 := cell_later HB.out e0
  have f1 := cell_later HB.out e1
  have f2 := cell_later HB.out e2
  have f3 := cell_later HB.out e3
  have f4 := cell_later HB.out e4
  have f5 := cell_later HB.out e5
  have f6 := cell_later HB.out e6
  have f7 := cell_later HB.out e7
  have f8 := cell_later HB.out e8
  have f9 := cell_later HB.out e9
  clear e0 e1 e2 e3 e4 e5 e6 e7 e8 e9
  obtain ⟨wb, hwb⟩ : ∃ wb, wb = wr.alloc (.cells #[.int .i64 D.ops[k].op, .int .i64 D.ops[k].d, .int .i64 D.ops[k].a, .int .i64 D.ops[k].b, .int .i64 D.ops[k].x, .int .i64 D.ops[k].f, .int .i64 D.ops[k].p, .int .i64 D.ops[k].v.k, .int .i64 D.ops[k].v.n, .string D.ops[k].v.s] 58) := ⟨_, rfl⟩
  have hownb : wb.ownsRow w.heap.size 3 1 (.slice xa (opsT D f p k).length cap) (opsT D f p k).length ((opsT D f p k).map (Value.int .i64)) := by rw [hwb]; exact World.ownsRow.alloc hown _
  have HBB : Hid (Below w.heap.size w wb) := by rw [hwb]; exact HB.out.alloc HB.out.size _
  have hX : wb.heap[wr.heap.size]? = some (.cells #[.int .i64 D.ops[k].op, .int .i64 D.ops[k].d, .int .i64 D.ops[k].a, .int .i64 D.ops[k].b, .int .i64 D.ops[k].x, .int .i64 D.ops[k].f, .int .i64 D.ops[k].p, .int .i64 D.ops[k].v.k, .int .i64 D.ops[k].v.n, .string D.ops[k].v.s] 58 (0, 0)) := by rw [hwb]; exact block_new _ _ _
  have hP2 : wb.heap[gp]? = some (.cells #[.int .i64 f, .int .i64 p] 64 (0, 0)) := by rw [hwb]; exact block_old HG.out _
  have HS : Hid (∀ w', Below wb.heap.size wb w' → w'.cell? ⟨wr.heap.size, 0, none⟩ = some (.int .i64 D.ops[k].op) ∧ w'.cell? ⟨wr.heap.size, 1, none⟩ = some (.int .i64 D.ops[k].d) ∧ w'.cell? ⟨wr.heap.size, 2, none⟩ = some (.int .i64 D.ops[k].a) ∧ w'.cell? ⟨wr.heap.size, 3, none⟩ = some (.int .i64 D.ops[k].b) ∧ w'.cell? ⟨wr.heap.size, 4, none⟩ = some (.int .i64 D.ops[k].x) ∧ w'.cell? ⟨wr.heap.size, 5, none⟩ = some (.int .i64 D.ops[k].f) ∧ w'.cell? ⟨wr.heap.size, 6, none⟩ = some (.int .i64 D.ops[k].p) ∧ w'.cell? ⟨wr.heap.size, 7, none⟩ = some (.int .i64 D.ops[k].v.k) ∧ w'.cell? ⟨wr.heap.size, 8, none⟩ = some (.int .i64 D.ops[k].v.n) ∧ w'.cell? ⟨wr.heap.size, 9, none⟩ = some (.string D.ops[k].v.s) ∧ w'.cell? ⟨gp, 0, none⟩ = some (.int .i64 f) ∧ w'.cell? ⟨gp, 1, none⟩ = some (.int .i64 p)) := fun w' q => ⟨block_cell (block_kept hX q) 0, block_cell (block_kept hX q) 1, block_cell (block_kept hX q) 2, block_cell (block_kept hX q) 3, block_cell (block_kept hX q) 4, block_cell (block_kept hX q) 5, block_cell (block_kept hX q) 6, block_cell (block_kept hX q) 7, block_cell (block_kept hX q) 8, block_cell (block_kept hX q) 9, block_cell (block_kept hP2 q) 0, block_cell (block_kept hP2 q) 1⟩
  obtain ⟨j0, j1, j2, j3, j4, j5, j6, j7, j8, j9, j10, j11⟩ := HS.out wb (Below.refl _ _)
  have HX := hido hX
  have HP2 := hido hP2
  have HOW := hido hownb
  have q : Below wb.heap.size wb wb.drew := (Below.refl _ _).drew
  have gPl := guardPl
  have ePl := eqInPl D.ops[k].f D.ops[k].p f p
  have HHIT := hido (opsT_hit D f p k hlt)
  have HMISS := hido (opsT_miss D f p k hlt)
  clear hX hP2 hownb hown HG HB
  go_upto_region 8 with fail
  rw [← hwb]
  clear hwb f0 f1 f2 f3 f4 f5 f6 f7 f8 f9
  by_cases hE : D.ops[k].f = f ∧ D.ops[k].p = p
  case neg =>
   rw [pB_no hE] at ePl
   have HE := hido (HMISS.out hE)
   clear HHIT HMISS hE
   go_region_held3 (fun w' => w'.cell? ⟨wr.heap.size, 0, none⟩ = some (.int .i64 D.ops[k].op) ∧ w'.cell? ⟨wr.heap.size, 1, none⟩ = some (.int .i64 D.ops[k].d) ∧ w'.cell? ⟨wr.heap.size, 2, none⟩ = some (.int .i64 D.ops[k].a) ∧ w'.cell? ⟨wr.heap.size, 3, none⟩ = some (.int .i64 D.ops[k].b) ∧ w'.cell? ⟨wr.heap.size, 4, none⟩ = some (.int .i64 D.ops[k].x) ∧ w'.cell? ⟨wr.heap.size, 5, none⟩ = some (.int .i64 D.ops[k].f) ∧ w'.cell? ⟨wr.heap.size, 6, none⟩ = some (.int .i64 D.ops[k].p) ∧ w'.cell? ⟨wr.heap.size, 7, none⟩ = some (.int .i64 D.ops[k].v.k) ∧ w'.cell? ⟨wr.heap.size, 8, none⟩ = some (.int .i64 D.ops[k].v.n) ∧ w'.cell? ⟨wr.heap.size, 9, none⟩ = some (.string D.ops[k].v.s) ∧ w'.cell? ⟨gp, 0, none⟩ = some (.int .i64 f) ∧ w'.cell? ⟨gp, 1, none⟩ = some (.int .i64 p))
    (first | exact ⟨j0, j1, j2, j3, j4, j5, j6, j7, j8, j9, j10, j11⟩ | exact HS.out _ q)
    (first | (go_at_call 27; refine (comes_any _ _ _ _ _ _ _ _ _ _ _).mono ?_; rintro e wy ⟨rfl, kd⟩; have q := q.trans (kd.mono q.size)))
   have hown2 := own_blw HOW.out q
   have HG2 := hido (block_kept HP2.out q)
   have HB2 := hido (HBB.out.trans (q.mono HBB.out.size))
   clear HOW HP2 HBB HS HX j0 j1 j2 j3 j4 j5 j6 j7 j8 j9 j10 j11 kd q ePl gPl
   go_wp2
   go_roundw
   case rel => exact ⟨k + 1, by omega, by go_num, ⟨xa, cap, by rw [HE.out]⟩, by rw [HE.out]; exact hown2, HG2, HB2⟩
   case measure => simp [intOf]; omega
  rw [pB_yes hE] at ePl
  have HE := hido (HHIT.out hE)
  clear HHIT HMISS hE
  go_region_held3 (fun w' => w'.cell? ⟨wr.heap.size, 0, none⟩ = some (.int .i64 D.ops[k].op) ∧ w'.cell? ⟨wr.heap.size, 1, none⟩ = some (.int .i64 D.ops[k].d) ∧ w'.cell? ⟨wr.heap.size, 2, none⟩ = some (.int .i64 D.ops[k].a) ∧ w'.cell? ⟨wr.heap.size, 3, none⟩ = some (.int .i64 D.ops[k].b) ∧ w'.cell? ⟨wr.heap.size, 4, none⟩ = some (.int .i64 D.ops[k].x) ∧ w'.cell? ⟨wr.heap.size, 5, none⟩ = some (.int .i64 D.ops[k].f) ∧ w'.cell? ⟨wr.heap.size, 6, none⟩ = some (.int .i64 D.ops[k].p) ∧ w'.cell? ⟨wr.heap.size, 7, none⟩ = some (.int .i64 D.ops[k].v.k) ∧ w'.cell? ⟨wr.heap.size, 8, none⟩ = some (.int .i64 D.ops[k].v.n) ∧ w'.cell? ⟨wr.heap.size, 9, none⟩ = some (.string D.ops[k].v.s) ∧ w'.cell? ⟨gp, 0, none⟩ = some (.int .i64 f) ∧ w'.cell? ⟨gp, 1, none⟩ = some (.int .i64 p))
   (first | exact ⟨j0, j1, j2, j3, j4, j5, j6, j7, j8, j9, j10, j11⟩ | exact HS.out _ q)
   (first | (go_at_call 27; refine (comes_any _ _ _ _ _ _ _ _ _ _ _).mono ?_; rintro e wy ⟨rfl, kd⟩; have q := q.trans (kd.mono q.size)))
  have hown2 := own_blw HOW.out q
  have HG2 := hido (block_kept HP2.out q)
  have HB2 := hido (HBB.out.trans (q.mono HBB.out.size))
  have x0 : wy.cell? ⟨wr.heap.size, 0, none⟩ = some (.int .i64 D.ops[k].op) := by rw [block_cell (block_kept HX.out q)]; rfl
  obtain ⟨Pl, hPl⟩ : ∃ Pl, Pl = opsT D f p k := ⟨_, rfl⟩
  rw [← hPl] at hown2 HE hln ⊢
  have hszr := HB2.out.size
  clear HOW HP2 HBB HS HX j0 j1 j2 j3 j4 j5 j6 j7 j8 j9 j10 j11 kd q ePl gPl hPl
  go_wp2_with (first | (at_builtin; go_loud (refine wpList_append_lies _ rfl _ _ 32 rfl w.heap.size 3 i0 (.int .i64 0) 1 8 Tryz.underlying32 hi hz0 hz1 hz2 rfl (by decide) _ _ _ rfl (World.ownsRow.alloc hown2 _) ⟨wy.heap.size, 0, none⟩ 1 1 [.int .i64 D.ops[k].op] rfl rfl (cell_one_new _ _ _) (by intro u hu; simp at hu; subst hu; rfl) (by decide) (by unfold maxLen; omega) (by omega) (by simp; omega) _ rfl ?_); intro g1 cap1 w1 hown1 hgrow1 _ _))
  have hk1 := Keeps.grown (ts := [3]) (World.ownsRow.alloc hown2 _) hgrow1 (by simp)
  have HG3 := hido (hk1.cell (block_old HG2.out _) (by decide))
  have HB1 : Hid (Below w.heap.size w w1) := (HB2.out.alloc HB2.out.size _).trans (hk1.toBelow (by simp; omega))
  go_roundw
  case rel => exact ⟨k + 1, by omega, by go_num, ⟨some ⟨g1, 0, none⟩, cap1, by rw [HE.out]; simp⟩, by rw [HE.out]; simpa using hown1, HG3, HB1⟩
  case measure => simp [intOf]; omega
set_option maxHeartbeats 4000000 in
theorem sOps_any (SF : SFast) (a1 a2 oa ea : Option Addr) (c1 c2 oc ec : Nat) (ts : List ByteArray) (fs : List Fn) (D : FastD) (f p : Int) (w : World) (hs : Small ts fs) (hd : FastSmall D) (hm : StrsAt w 0 a1 ts) (hm2 : FnsAt w 0 a2 fs) (hf : FastAt w 0 oa ea D) :
  Calls Tryz.prog 6 #[.agg #[.slice a1 ts.length c1, .slice a2 fs.length c2], .agg (fastCells oa ea oc ec D), .int .i64 f, .int .i64 p] w (OpsPost ts fs D f p w) := by
 obtain ⟨w0, hw0⟩ : ∃ w0, w0 = (w.alloc (.cells #[.slice a1 ts.length c1, .slice a2 fs.length c2] 36)).alloc (.cells #[.int .i64 D.fn, .int .i64 D.entry, .int .i64 D.vals, .int .i64 D.nums, .slice oa D.ops.length oc, .slice ea D.exits.length ec] 41) := ⟨_, rfl⟩
 have hb0 : Below w.heap.size w w0 := by rw [hw0]; exact ((Below.refl _ _).alloc (Nat.le_refl _) _).alloc (by simp) _
 have hF0 : w0.heap[w.heap.size + 1]? = some (.cells #[.int .i64 D.fn, .int .i64 D.entry, .int .i64 D.vals, .int .i64 D.nums, .slice oa D.ops.length oc, .slice ea D.exits.length ec] 41 (0, 0)) := by rw [hw0]; exact block_new_at _ _ _ _ (by simp)
 have hM0 : w0.heap[w.heap.size]? = some (.cells #[.slice a1 ts.length c1, .slice a2 fs.length c2] 36 (0, 0)) := by rw [hw0]; exact block_old (block_new _ _ _) _
 obtain ⟨w0', hw0'⟩ : ∃ w0', w0' = w0.alloc (.cells #[] 3) := ⟨_, rfl⟩
 have hb0' : Below w.heap.size w w0' := by rw [hw0']; exact hb0.alloc hb0.size _
 have hfo := SF a1 a2 oa ea c1 c2 oc ec ts fs D w0' hs hd (hm.mono hb0') (hm2.mono hb0') (hf.mono hb0')
 have hOw : w0'.ownsRow w.heap.size 3 1 (.slice (some ⟨w0.heap.size, 0, none⟩) 0 0) 0 (([] : List Int).map (Value.int .i64)) := by
  have := World.ownsRow_made (base := w.heap.size) (e := 3) (size := 1) w0 #[] 0 hb0.size (by unfold maxLen; omega) rfl
  rw [hw0']; simpa using this
 have hz2 : w0.heap.size = w.heap.size + 1 + 1 := by rw [hw0]; simp
 rw [hz2] at hOw
 clear hz2
 have hM0' : w0'.heap[w.heap.size]? = some (.cells #[.slice a1 ts.length c1, .slice a2 fs.length c2] 36 (0, 0)) := by rw [hw0']; exact block_old hM0 _
 have hF0' : w0'.heap[w.heap.size + 1]? = some (.cells #[.int .i64 D.fn, .int .i64 D.entry, .int .i64 D.vals, .int .i64 D.nums, .slice oa D.ops.length oc, .slice ea D.exits.length ec] 41 (0, 0)) := by rw [hw0']; exact block_old hF0 _
 have m1 := block_cell hM0'
 have m2 := block_cell hF0'
 unfold fastCells at hfo ⊢
 obtain ⟨i0, hi, hz0, hz1, hz2⟩ := info_parts info3
 go_enter Tryz.func6, Tryz.ntmps6
 go_upto_region 2 with fail
 rw [← hw0, ← hw0']
 clear hw0 hw0' hM0 hF0 hb0
 obtain ⟨gz, hgz⟩ : ∃ gz, gz = w.heap.size + 1 + 1 := ⟨_, rfl⟩
 rw [← hgz] at hOw ⊢
 clear hgz
 go_wp2_with fail
 refine hfo.mono ?_
 clear hfo m1 m2
 rintro e w1 ⟨rfl, hb1⟩
 have hB1 := hb0'.trans (hb1.mono hb0'.size)
 have hF1 := block_kept hF0' hb1
 have hO1 := own_blw hOw hb1
 clear hF0' hM0' hb0' hb1 hOw hm hm2
 by_cases hP : FastP ts fs D
 case neg =>
  rw [pB_no hP]
  have HN := hido hP
  have HD : Hid (DSl w1 w.heap.size (.slice (some ⟨gz, 0, none⟩) 0 0) []) := own_dsl (d := []) hO1 rfl
  clear hP hO1
  go_wp2
  go_ret
  unfold OpsPost
  exact ⟨_, [], rfl, .inr ⟨HN.out, rfl⟩, HD.out, hB1⟩
 rw [pB_yes hP]
 have HP : Hid (FastP ts fs D) := hP
 have hol : D.ops.length ≤ 1500 := fast_ops hP
 clear hP
 go_wp2
 go_loopw [9, 10] (fun q i wr => ∃ (k : Nat), k ≤ D.ops.length ∧ i = .int .i64 k ∧ (∃ xa cap, q = .slice xa (opsT D f p k).length cap) ∧ wr.ownsRow w.heap.size 3 1 q (opsT D f p k).length ((opsT D f p k).map (Value.int .i64)) ∧ Hid (wr.heap[w.heap.size + 1]? = some (.cells #[.int .i64 D.fn, .int .i64 D.entry, .int .i64 D.vals, .int .i64 D.nums, .slice oa D.ops.length oc, .slice ea D.exits.length ec] 41 (0, 0))) ∧ Hid (Below w.heap.size w wr)) (fun _ i _ => D.ops.length - (intOf i).toNat)
 case atStart => exact ⟨0, by omega, rfl, ⟨_, _, rfl⟩, hO1, hF1, hB1⟩
 case round =>
  obtain ⟨k, hk, rfl, ⟨xa, cap, rfl⟩, hown, HG, HB⟩ := hrel
  clear hO1 hB1 hF1
  have hln : (opsT D f p k).length ≤ 1500 := Nat.le_trans (opsT_len _ _ _ _) (by omega)
  have y1 := block_cell HG.out
  by_cases hlt : k < D.ops.length
  case neg =>
   obtain rfl : k = D.ops.length := by omega
   have z2 : ¬ (D.ops.length : Int) < (D.ops.length : Int) := by omega
   have HR : Hid (DSl wr w.heap.size (.slice xa (opsT D f p D.ops.length).length cap) (opsT D f p D.ops.length)) := own_dsl hown rfl
   clear hown
   go_wp2
   go_ret
   unfold OpsPost
   exact ⟨_, _, rfl, .inl ⟨HP.out, rfl⟩, HR.out, HB.out⟩
  have zk : (k : Int) < (D.ops.length : Int) := by omega
  obtain ⟨be, oe, hea, -, e0, e1, e2, e3, e4, e5, e6, e7, e8, e9⟩ := hf.ops k hlt
  subst hea
  have f0 := cell_later HB.out e0
  have f5 := cell_later HB.out e5
  have f6 := cell_later HB.out e6
  have HHIT := hido (opsT_hit D f p k hlt)
  have HMISS := hido (opsT_miss D f p k hlt)
  clear e0 e1 e2 e3 e4 e5 e6 e7 e8 e9
  obtain ⟨fv, hfv⟩ : ∃ fv, fv = D.ops[k].op := ⟨_, rfl⟩
  obtain ⟨ff, hff⟩ : ∃ ff, ff = D.ops[k].f := ⟨_, rfl⟩
  obtain ⟨pp, hpp⟩ : ∃ pp, pp = D.ops[k].p := ⟨_, rfl⟩
  rw [← hff, ← hpp] at HHIT HMISS
  rw [← hfv] at HHIT f0
  rw [← hff] at f5
  rw [← hpp] at f6
  clear hfv hff hpp
  by_cases hE1 : ff = f
  case neg =>
   have HE := hido (HMISS.out (fun h => hE1 h.1))
   clear HHIT HMISS
   go_wp2
   go_roundw
   case rel => exact ⟨k + 1, by omega, by go_num, ⟨xa, cap, by rw [HE.out]⟩, by rw [HE.out]; exact hown, HG, HB⟩
   case measure => simp [intOf]; omega
  subst hE1
  by_cases hE2 : pp = p
  case neg =>
   have HE := hido (HMISS.out (fun h => hE2 h.2))
   clear HHIT HMISS
   go_wp2
   go_roundw
   case rel => exact ⟨k + 1, by omega, by go_num, ⟨xa, cap, by rw [HE.out]⟩, by rw [HE.out]; exact hown, HG, HB⟩
   case measure => simp [intOf]; omega
  subst hE2
  have HE := hido (HHIT.out ⟨rfl, rfl⟩)
  clear HHIT HMISS
  obtain ⟨Pl, hPl⟩ : ∃ Pl, Pl = opsT D ff pp k := ⟨_, rfl⟩
  rw [← hPl] at hown HE hln ⊢
  have hszr := HB.out.size
  clear hPl
  go_wp2_with (first | (at_builtin; refine wpList_append_lies _ rfl _ _ 32 rfl w.heap.size 3 i0 (.int .i64 0) 1 8 Tryz.underlying32 hi hz0 hz1 hz2 rfl (by decide) _ _ _ rfl (World.ownsRow.alloc hown _) ⟨wr.heap.size, 0, none⟩ 1 1 [.int .i64 fv] rfl rfl (cell_one_new _ _ _) (by intro u hu; simp at hu; subst hu; rfl) (by decide) (by unfold maxLen; omega) (by omega) (by simp; omega) _ rfl ?_; intro g1 cap1 w1 hown1 hgrow1 _ _))
  have hk1 := Keeps.grown (ts := [3]) (World.ownsRow.alloc hown _) hgrow1 (by simp)
  have HG3 := hido (hk1.cell (block_old HG.out _) (by decide))
  have HB1 : Hid (Below w.heap.size w w1) := (HB.out.alloc HB.out.size _).trans (hk1.toBelow (by simp; omega))
  go_roundw
  case rel => exact ⟨k + 1, by omega, by go_num, ⟨some ⟨g1, 0, none⟩, cap1, by rw [HE.out]; simp⟩, by rw [HE.out]; simpa using hown1, HG3, HB1⟩
  case measure => simp [intOf]; omega
theorem DSl.ints {w : World} {B n cap : Nat} {a : Option Addr} {d : List Int} (h : DSl w B (.slice a n cap) d) : IntsAt w 0 a d := by
 obtain ⟨a', cap', hv, hi⟩ := h.form
 cases hv
 exact hi.low (Nat.zero_le _)
set_option maxHeartbeats 400000 in
theorem eqIntS_any (a a2 : Option Addr) (bs : List Int) (cap cap2 : Nat) (w : World) (hn : bs.length ≤ 1048576) (hm : IntsAt w 0 a bs) (hm2 : IntsAt w 0 a2 bs) :
  Calls Tryz.prog 10 #[.slice a bs.length cap, .slice a2 bs.length cap2] w fun e w' => e = .returned (.bool true) ∧ Below w.heap.size w w' := by
 go_enter Tryz.func10, Tryz.ntmps10
 go_wp2
 go_loopw [5] (fun i wr => ∃ (k : Nat), k ≤ bs.length ∧ i = .int .i64 k ∧ Below w.heap.size w wr) (fun i _ => bs.length - (intOf i).toNat)
 case atStart => exact ⟨0, by omega, rfl, Below.refl _ _⟩
 case round =>
  obtain ⟨k, hk, rfl, hb⟩ := hrel
  by_cases hlt : k < bs.length
  ·
   obtain ⟨b, off, rfl, -, c1⟩ := hm k hlt
   obtain ⟨b2, off2, rfl, -, c2⟩ := hm2 k hlt
   have c1' := cell_later hb c1
   have c2' := cell_later hb c2
   clear c1 c2
   go_wp2
   go_quiet (fail)
   go_wp2
   go_roundw
   case rel => exact ⟨k + 1, by omega, by go_num, below_draws hb _⟩
   case measure => simp [intOf]; omega
  ·
   go_wp2
   go_ret
   exact ⟨rfl, hb⟩
def imarks (k : Int) (n : Nat) : List Int := (List.range n).map fun (i : Nat) => k + (i : Int)
theorem imarks_len (k : Int) (n : Nat) : (imarks k n).length = n := by simp [imarks]
theorem imarks_at (k : Int) (n i : Nat) (h : i < (imarks k n).length) : (imarks k n)[i] = k + i := by simp [imarks]
set_option maxHeartbeats 400000 in
theorem heldIntS_any (a : Option Addr) (n : Nat) (cap : Nat) (k0 : Int) (w : World) (hn : n ≤ 1048576) (h0 : 0 ≤ k0) (h1 : k0 ≤ 1000) (hm : IntsAt w 0 a (imarks k0 n)) :
  Calls Tryz.prog 16 #[.slice a n cap, .int .i64 k0] w fun e w' => e = .returned (.int .i64 (k0 + n)) ∧ Below w.heap.size w w' := by
 go_enter Tryz.func16, Tryz.ntmps16
 go_wp2
 go_loopw [1, 5] (fun q i wr => ∃ (k : Nat), k ≤ n ∧ i = .int .i64 k ∧ q = .int .i64 (k0 + k) ∧ Below w.heap.size w wr) (fun _ i _ => n - (intOf i).toNat)
 case atStart => exact ⟨0, by omega, rfl, by go_num, Below.refl _ _⟩
 case round =>
  obtain ⟨k, hk, rfl, rfl, hb⟩ := hrel
  by_cases hlt : k < n
  ·
   obtain ⟨b, off, rfl, -, c1⟩ := hm k (by rw [imarks_len]; exact hlt)
   rw [imarks_at] at c1
   have c1' := cell_later hb c1
   clear c1
   go_wp2
   go_roundw
   case rel => exact ⟨k + 1, by omega, by go_num, by go_num, hb⟩
   case measure => simp [intOf]; omega
  ·
   go_wp2
   go_ret
   exact ⟨ret_int (by omega), hb⟩
set_option maxHeartbeats 400000 in
theorem markIntS_any (B : Nat) (a : Option Addr) (bs : List Int) (cap : Nat) (k0 : Int) (w : World) (hn : bs.length ≤ 1048576) (h0 : 0 ≤ k0) (h1 : k0 ≤ 1000) (hown : DSl w B (.slice a bs.length cap) bs) :
  Calls Tryz.prog 15 #[.slice a bs.length cap, .int .i64 k0] w fun e w' => e = .returned (.int .i64 (k0 + bs.length)) ∧ DSl w' B (.slice a bs.length cap) (imarks k0 bs.length) ∧ Keeps B [3] w w' := by
 rcases hown with ⟨rfl, a', cap', hv⟩ | ⟨g, cp, hv, hgB, hH0⟩
 ·
  go_enter Tryz.func15, Tryz.ntmps15
  go_wp2
  go_loopw [1, 5] (fun q i wr => q = .int .i64 k0 ∧ i = .int .i64 0 ∧ wr = w) (fun _ i _ => (intOf i).toNat)
  case atStart => exact ⟨rfl, rfl, rfl⟩
  case round =>
   obtain ⟨rfl, rfl, rfl⟩ := hrel
   go_wp2
   go_ret
   exact ⟨ret_int (by simp), .inl ⟨rfl, _, _, rfl⟩, Keeps.refl _ _ _⟩
 ·
  cases hv
  go_enter Tryz.func15, Tryz.ntmps15
  go_wp2
  go_loopw [1, 5] (fun q i wr => ∃ (k : Nat) (cur : List Int), k ≤ bs.length ∧ i = .int .i64 k ∧ q = .int .i64 (k0 + k) ∧ Ht wr g cap cur ∧ Hid (cur.length = bs.length) ∧ Hid (∀ j (hj : j < cur.length), j < k → cur[j] = k0 + j) ∧ Keeps B [3] w wr) (fun _ i _ => bs.length - (intOf i).toNat)
  case atStart => exact ⟨0, bs, by omega, rfl, by go_num, hH0, rfl, fun j _ h => absurd h (Nat.not_lt_zero _), Keeps.refl _ _ _⟩
  case round =>
   obtain ⟨k, cur, hk, rfl, rfl, hH, hlen, hdone, hkr⟩ := hrel
   by_cases hlt : k < bs.length
   ·
    have hkl : k < cur.length := by rw [hlen.out]; exact hlt
    have hfz := hH.free k
    have hcl := hH.cell hkl
    have hH2 := hH.set hkl (k0 + k)
    obtain ⟨c, hblk, -⟩ := hH
    have hk2 := Keeps.set hkr hblk (by simp) hgB k (.int .i64 (k0 + k))
    clear hblk
    go_wp2
    go_roundw
    case rel =>
     refine ⟨k + 1, cur.set k (k0 + k), by omega, by go_num, by go_num, hH2, ?_, ?_, hk2⟩
     ·
      show _ = _
      rw [List.length_set]
      exact hlen.out
     ·
      intro j hj hjk
      rw [List.length_set] at hj
      by_cases e : j = k
      · subst e; simp
      · rw [List.getElem_set_ne (fun q => e q.symm)]; exact hdone.out j hj (by omega)
    case measure => simp [intOf]; omega
   ·
    have hce : Hid (cur = imarks k0 bs.length) := by
     show _ = _
     apply List.ext_getElem
     · rw [imarks_len]; exact hlen.out
     ·
      intro j h1 h2
      rw [imarks_at]
      exact hdone.out j h1 (by rw [imarks_len] at h2; omega)
    go_wp2
    go_ret
    refine ⟨ret_int (by omega), .inr ⟨g, cap, by rw [imarks_len], hgB, by rw [← hce.out]; exact hH⟩, hkr⟩
end Go.Proofs.YthnolafhnplnkaaGreatDoor
