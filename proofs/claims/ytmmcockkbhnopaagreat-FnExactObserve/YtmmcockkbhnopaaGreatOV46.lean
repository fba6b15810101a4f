/-
  A map by places whose values are watchers: looked up, and with a key more.
  What the watchers' methods do: they count, join a site, tell.
  A watcher joins a site, tells, is made.
-/
import Derived.Test.YtmmcockkbhnopaaGreatOV41
import Derived.Laws.StructEq
import Derived.LaidEql
import Derived.Maps.OwnSet
namespace Go.Proofs.YtmmcockkbhnopaaGreat
open Go.RowKit

theorem pB_andz (P Q : Prop) : pB (P ∧ Q) = (pB P && pB Q) := by
  rw [Bool.eq_iff_iff]
  simp [pB]
theorem int_eqz (a b : Int) : (a == b) = pB (a = b) := by
  rw [Bool.eq_iff_iff]
  simp [pB]
set_option maxRecDepth 100000 in
theorem eqInPl (a b c e : Int) (W : World) : (Op.equalIn 10000 134 (.agg #[.int .i64 a, .int .i64 b]) (.agg #[.int .i64 c, .int .i64 e])).run Tryz.prog W = .ok (pB (a = c ∧ b = e)) W := by
  have h : ∀ d : Nat, (Op.equalIn (d + 1 + 1) 134 (.agg #[.int .i64 a, .int .i64 b]) (.agg #[.int .i64 c, .int .i64 e])).run Tryz.prog W = .ok (pB (a = c ∧ b = e)) W := fun d => by
    have ht : Tryz.prog.underlying 134 = some (.struct (Tryz.prog.fieldsOf 134)) := by kernel_rfl
    have hp : Tryz.prog.stoodInHeld 134 = false := by kernel_rfl
    have hf : (Tryz.prog.fieldsOf 134).toList.map (fun f => (f.name, f.type, f.offset)) = [("fn", 3, 0), ("pc", 3, 1)] := by kernel_rfl
    rw [run_equalIn_struct W (d + 1) 134 _ _ ht hp]
    have p0 : ∀ (a b : Int) (W : World), (part 3 #[.int .i64 a, .int .i64 b] 0).run Tryz.prog W = .ok (.int .i64 a) W := fun _ _ _ => by kernel_rfl
    have p1 : ∀ (a b : Int) (W : World), (part 3 #[.int .i64 a, .int .i64 b] 1).run Tryz.prog W = .ok (.int .i64 b) W := fun _ _ _ => by kernel_rfl
    rcases hL : (Tryz.prog.fieldsOf 134).toList with _ | ⟨f1, _ | ⟨f2, _ | _⟩⟩
    · rw [hL] at hf; simp at hf
    · rw [hL] at hf; simp at hf
    · rw [hL] at hf
      simp only [List.map_cons, List.map_nil, List.cons.injEq, Prod.mk.injEq, and_true] at hf
      obtain ⟨⟨n1, t1, o1⟩, n2, t2, o2⟩ := hf
      have e1 := run_equalIn_int (P := Tryz.prog) W d 3 .i64 .i64 a c Tryz.underlying3
      have e2 := run_equalIn_int (P := Tryz.prog) W d 3 .i64 .i64 b e Tryz.underlying3
      rw [int_eqz] at e1 e2
      have hb : pB (a = c ∧ b = e) = (pB (a = c) && pB (b = e)) := pB_andz _ _
      rw [hb]
      cases hk : pB (a = c) <;> cases hn : pB (b = e) <;> rw [hk] at e1 <;> rw [hn] at e2 <;>
        simp [Op.eqFields, n1, t1, o1, n2, t2, o2, p0, p1, e1, e2]
    · rw [hL] at hf; simp at hf
  exact h 9998

/-- A watcher's key, and its value. -/
def keyW (W : Wt) : Value := .agg #[.int .i64 W.f, .int .i64 W.p]
def valW (W : Wt) : Value := if W.c = true then .iface 197 (.pointer (some ⟨W.g, 0, none⟩)) else .iface 202 (.pointer (some ⟨W.g, 0, none⟩))
def Ents (es : List MapEntry) (ws : List Wt) : Prop := es.map (fun e => (e.key, e.val)) = ws.map (fun W => (keyW W, valW W))
/-- Entries bear stamps, each its own. -/
def StampOk (es : List MapEntry) (c : Nat) : Prop := (∀ e ∈ es, e.born < c) ∧ es.Pairwise fun d e => d.born ≠ e.born
/-- A map of these watchers. -/
def MapW (w : World) (b : Nat) (ws : List Wt) : Prop := ∃ es c, w.heap[b]? = some (.map es c) ∧ Ents es.toList ws ∧ StampOk es.toList c

theorem eq_keyz (a b c e : Int) (w : World) : (Op.equal 134 (.agg #[.int .i64 a, .int .i64 b]) (.agg #[.int .i64 c, .int .i64 e])).run Tryz.prog w = .ok (decide (a = c ∧ b = e)) w := by
  have h := eqInPl a b c e w
  have hd : pB (a = c ∧ b = e) = decide (a = c ∧ b = e) := by
    by_cases q : a = c ∧ b = e
    · rw [pB_yes q]; simp [q]
    · rw [pB_no q]; simp [q]
  rw [hd] at h
  exact h
theorem check_keyz (em : Bool) (a b : Int) (w : World) : (Instr.checkKey em 10000 134 (.agg #[.int .i64 a, .int .i64 b])).run Tryz.prog w = .ok () w := by
  have h : ∀ d : Nat, (Instr.checkKey em (d + 1 + 1) 134 (.agg #[.int .i64 a, .int .i64 b])).run Tryz.prog w = .ok () w := fun d => by kernel_rfl
  exact h 9998

theorem find_no (f p : Int) (w : World) : ∀ (es : List MapEntry) (ws : List Wt) (i : Nat), Ents es ws → (∀ W ∈ ws, ¬ (W.f = f ∧ W.p = p)) → (Instr.findAsking 134 (.agg #[.int .i64 f, .int .i64 p]) es i).run Tryz.prog w = .ok none w
  | [], _, _, _, _ => by simp [Instr.findAsking]
  | e :: es, ws, i, h, hno => by
    cases ws with
    | nil => simp [Ents] at h
    | cons W ws =>
      simp only [Ents, List.map_cons, List.cons.injEq, Prod.mk.injEq] at h
      obtain ⟨⟨hk, hv⟩, ht⟩ := h
      have h1 := find_no f p w es ws (i + 1) ht (fun V hV => hno V (List.mem_cons_of_mem _ hV))
      have h2 := hno W List.mem_cons_self
      have h4 : decide (f = W.f ∧ p = W.p) = false := decide_eq_false (fun q => h2 ⟨q.1.symm, q.2.symm⟩)
      simp only [Instr.findAsking, Sem.run_bind, hk, keyW, eq_keyz, h4]
      simpa using h1
theorem find_yes (f p : Int) (w : World) (W : Wt) (l2 : List Wt) (h1 : W.f = f) (h2 : W.p = p) : ∀ (l1 : List Wt) (es : List MapEntry) (i : Nat), Ents es (l1 ++ W :: l2) → (∀ V ∈ l1, ¬ (V.f = f ∧ V.p = p)) → (Instr.findAsking 134 (.agg #[.int .i64 f, .int .i64 p]) es i).run Tryz.prog w = .ok (some (i + l1.length, valW W)) w
  | [], es, i, h, _ => by
    cases es with
    | nil => simp [Ents] at h
    | cons e es =>
      simp only [Ents, List.nil_append, List.map_cons, List.cons.injEq, Prod.mk.injEq] at h
      obtain ⟨⟨hk, hv⟩, ht⟩ := h
      have h4 : decide (f = W.f ∧ p = W.p) = true := decide_eq_true ⟨h1.symm, h2.symm⟩
      simp only [Instr.findAsking, Sem.run_bind, hk, keyW, eq_keyz, h4, hv]
      simp
  | V :: l1, es, i, h, hno => by
    cases es with
    | nil => simp [Ents] at h
    | cons e es =>
      simp only [Ents, List.cons_append, List.map_cons, List.cons.injEq, Prod.mk.injEq] at h
      obtain ⟨⟨hk, hv⟩, ht⟩ := h
      have h5 := find_yes f p w W l2 h1 h2 l1 es (i + 1) ht (fun U hU => hno U (List.mem_cons_of_mem _ hU))
      have h6 := hno V List.mem_cons_self
      have h4 : decide (f = V.f ∧ p = V.p) = false := decide_eq_false (fun q => h6 ⟨q.1.symm, q.2.symm⟩)
      simp only [Instr.findAsking, Sem.run_bind, hk, keyW, eq_keyz, h4]
      rw [show i + (V :: l1).length = i + 1 + l1.length by simp; omega]
      simpa using h5
theorem find_key_no (f p : Int) (w : World) (es : List MapEntry) (ws : List Wt) (h : Ents es ws) (hno : ∀ W ∈ ws, ¬ (W.f = f ∧ W.p = p)) : (Instr.findKey 134 (.agg #[.int .i64 f, .int .i64 p]) es).run Tryz.prog w = .ok none w := by
  have ht : Tryz.prog.underlying 134 = some (.struct (Tryz.prog.fieldsOf 134)) := by kernel_rfl
  have h1 := find_no f p w es ws 0 h hno
  cases es with
  | nil => simp [Instr.findKey, run_underlying ht, Instr.findNow]
  | cons e es =>
    have hn : Instr.findNow (.struct (Tryz.prog.fieldsOf 134)) (.agg #[.int .i64 f, .int .i64 p]) (e :: es) 0 = none := rfl
    simp only [Instr.findKey, Sem.run_bind, run_underlying ht]
    simpa [hn] using h1
theorem find_key_yes (f p : Int) (w : World) (es : List MapEntry) (l1 l2 : List Wt) (W : Wt) (h : Ents es (l1 ++ W :: l2)) (h1 : W.f = f) (h2 : W.p = p) (hno : ∀ V ∈ l1, ¬ (V.f = f ∧ V.p = p)) : (Instr.findKey 134 (.agg #[.int .i64 f, .int .i64 p]) es).run Tryz.prog w = .ok (some (l1.length, valW W)) w := by
  have ht : Tryz.prog.underlying 134 = some (.struct (Tryz.prog.fieldsOf 134)) := by kernel_rfl
  have h3 := find_yes f p w W l2 h1 h2 l1 es 0 h hno
  rw [Nat.zero_add] at h3
  cases es with
  | nil =>
    have := congrArg List.length h
    simp at this
  | cons e es =>
    have hn : Instr.findNow (.struct (Tryz.prog.fieldsOf 134)) (.agg #[.int .i64 f, .int .i64 p]) (e :: es) 0 = none := rfl
    simp only [Instr.findKey, Sem.run_bind, run_underlying ht]
    simpa [hn] using h3
theorem look_no (f p : Int) (b : Nat) (ws : List Wt) (w : World) (hm : MapW w b ws) (hno : ∀ W ∈ ws, ¬ (W.f = f ∧ W.p = p)) :
    (Instr.lookup 75 (.map (some b)) (.agg #[.int .i64 f, .int .i64 p]) true).run Tryz.prog w = .ok (.tuple #[.nilIface, .bool false]) w := by
  obtain ⟨es, c, hb, he⟩ := hm
  have hz : (zeroValue 131).run Tryz.prog w = .ok .nilIface w := by kernel_rfl
  simp [Instr.lookup, run_underlying Tryz.underlying75, MapKept.run_getObj_map hb, check_keyz, find_key_no f p w _ _ he.1 hno, hz]
theorem look_yes (f p : Int) (b : Nat) (l1 l2 : List Wt) (W : Wt) (w : World) (hm : MapW w b (l1 ++ W :: l2)) (h1 : W.f = f) (h2 : W.p = p) (hno : ∀ V ∈ l1, ¬ (V.f = f ∧ V.p = p)) :
    (Instr.lookup 75 (.map (some b)) (.agg #[.int .i64 f, .int .i64 p]) true).run Tryz.prog w = .ok (.tuple #[valW W, .bool true]) w ∧
    (Instr.lookup 75 (.map (some b)) (.agg #[.int .i64 f, .int .i64 p]) false).run Tryz.prog w = .ok (valW W) w := by
  obtain ⟨es, c, hb, he⟩ := hm
  constructor <;> simp [Instr.lookup, run_underlying Tryz.underlying75, MapKept.run_getObj_map hb, check_keyz, find_key_yes f p w _ l1 l2 W he.1 h1 h2 hno]
/-- A key more. -/
theorem put_new (W : Wt) (b : Nat) (ws : List Wt) (w : World) (hm : MapW w b ws) (hno : ∀ V ∈ ws, ¬ (V.f = W.f ∧ V.p = W.p)) :
    ∃ es c, (Instr.mapUpdate 75 (.map (some b)) (keyW W) (valW W)).run Tryz.prog w = .ok () (ChangeMaps.setBlock w b (.map es c)) ∧ Ents es.toList (ws ++ [W]) ∧ StampOk es.toList c := by
  obtain ⟨es, c, hb, he, hst⟩ := hm
  refine ⟨es.push ⟨keyW W, valW W, c⟩, c + 1, ?_, ?_, ?_⟩
  · unfold keyW
    simp [Instr.mapUpdate, run_underlying Tryz.underlying75, MapKept.run_getObj_map hb, check_keyz, find_key_no W.f W.p w _ _ he hno, MapKept.run_setObj_map _ hb, ChangeMaps.setBlock]
  · unfold Ents at he ⊢
    simp [he]
  · rw [Array.toList_push]
    refine ⟨fun e h => ?_, ?_⟩
    · rcases List.mem_append.1 h with h | h
      · have := hst.1 e h; omega
      · rw [List.mem_singleton.1 h]; exact Nat.lt_succ_self c
    · rw [List.pairwise_append]
      refine ⟨hst.2, by simp, fun d hd e h => ?_⟩
      rw [List.mem_singleton.1 h]
      have := hst.1 d hd
      show d.born ≠ c
      omega
/-- A key that is there stands at one place among the others. -/
theorem split_place {ws : List Wt} {f p : Int} (h : ∃ W ∈ ws, W.f = f ∧ W.p = p) : ∃ l1 W l2, ws = l1 ++ W :: l2 ∧ W.f = f ∧ W.p = p ∧ ∀ V ∈ l1, ¬ (V.f = f ∧ V.p = p) := by
  induction ws with
  | nil => obtain ⟨W, hW, -⟩ := h; cases hW
  | cons V ws ih =>
    by_cases hv : V.f = f ∧ V.p = p
    · exact ⟨[], V, ws, rfl, hv.1, hv.2, fun U hU => by cases hU⟩
    · obtain ⟨W, hW, hw⟩ := h
      rcases List.mem_cons.1 hW with rfl | hW
      · exact absurd hw hv
      · obtain ⟨l1, W', l2, rfl, e1, e2, e3⟩ := ih ⟨W, hW, hw⟩
        refine ⟨V :: l1, W', l2, rfl, e1, e2, fun U hU => ?_⟩
        rcases List.mem_cons.1 hU with rfl | hU
        · exact hv
        · exact e3 U hU
end Go.Proofs.YtmmcockkbhnopaaGreat

namespace Go.Proofs.YtmmcockkbhnopaaGreat
open Go.RowKit

/-- Nothing that was there is another, but block g. -/
structure But (g : Nat) (w w' : World) : Prop where
  os : w'.os = w.os
  tape : w'.tape = w.tape
  output : w'.output = w.output
  size : w.heap.size ≤ w'.heap.size
  block : ∀ k, k < w.heap.size → k ≠ g → w'.heap[k]? = w.heap[k]?
theorem But.refl (g : Nat) (w : World) : But g w w := ⟨rfl, rfl, rfl, Nat.le_refl _, fun _ _ _ => rfl⟩
theorem But.trans {g : Nat} {a b c : World} (h : But g a b) (k : But g b c) : But g a c :=
  ⟨k.os.trans h.os, k.tape.trans h.tape, k.output.trans h.output, Nat.le_trans h.size k.size, fun i hi hg => (k.block i (Nat.lt_of_lt_of_le hi h.size) hg).trans (h.block i hi hg)⟩
theorem But.of_below {g : Nat} {w w' : World} (h : Below w.heap.size w w') : But g w w' := ⟨h.os, h.tape, h.output, h.size, fun k hk _ => h.block k hk⟩
theorem But.below {g B : Nat} {a w w' : World} (hb : Below B a w) (h : But g w w') (hg : B ≤ g) (hB : B ≤ w.heap.size) : Below B a w' :=
  ⟨h.os.trans hb.os, h.tape.trans hb.tape, h.output.trans hb.output, Nat.le_trans hb.size h.size, fun k hk => (h.block k (by omega) (by omega)).trans (hb.block k hk)⟩
theorem But.setCell (g i : Nat) (w : World) (v : Value) : But g w (w.setCell ⟨g, i, none⟩ v) := ⟨rfl, rfl, rfl, by simp [World.setCell], fun _ _ hg => Below.heap_setCell _ _ _ _ hg⟩
theorem lt_sizez {w : World} {g : Nat} {o : Obj} (h : w.heap[g]? = some o) : g < w.heap.size := (Array.getElem?_eq_some_iff.1 h).1
theorem But.kept {g k : Nat} {w w' : World} {o : Obj} (h : But g w w') (hk : k ≠ g) (ho : w.heap[k]? = some o) : w'.heap[k]? = some o := (h.block k (lt_sizez ho) hk).trans ho

/-- What counting leaves. -/
def CntPost (g : Nat) (cs : Array Value) (ty : TypeId) (sn x o : Int) (w w' : World) : Prop :=
  ∃ cs', w'.heap[g]? = some (.cells cs' ty (0, 0)) ∧ cs'.size = cs.size ∧ cs'[0]? = some (.int .i64 (cntX sn x)) ∧ cs'[1]? = some (.int .i64 (cntO sn o)) ∧ (∀ j, 2 ≤ j → cs'[j]? = cs[j]?) ∧ But g w w'

set_option maxRecDepth 100000 in
set_option maxHeartbeats 1000000 in
theorem count_any (g : Nat) (sn x o : Int) (cs : Array Value) (ty : TypeId) (w : World) (hb : w.heap[g]? = some (.cells cs ty (0, 0))) (c0 : cs[0]? = some (.int .i64 x)) (c1 : cs[1]? = some (.int .i64 o)) (hx : 0 ≤ x ∧ x ≤ 100000) (ho : 0 ≤ o ∧ o ≤ 100000) :
    Calls Tryz.prog 180 #[.pointer (some ⟨g, 0, none⟩), .int .i64 sn] w fun e w' => (∃ v, e = .returned v) ∧ CntPost g cs ty sn x o w w' := by
  have hs0 : 0 < cs.size := (Array.getElem?_eq_some_iff.1 c0).1
  have hs1 : 1 < cs.size := (Array.getElem?_eq_some_iff.1 c1).1
  have k0 : w.cell? ⟨g, 0, none⟩ = some (.int .i64 x) := by rw [block_cell hb]; exact c0
  have k1 : w.cell? ⟨g, 1, none⟩ = some (.int .i64 o) := by rw [block_cell hb]; exact c1
  have f0 : w.frozen? ⟨g, 0, none⟩ = false := block_free hb 0
  have f1 : w.frozen? ⟨g, 1, none⟩ = false := block_free hb 1
  have HB := hidz hb
  clear hb
  by_cases h2 : sn = 2
  · subst h2
    have HP : Hid (CntPost g cs ty 2 x o w (w.setCell ⟨g, 1, none⟩ (.int .i64 (o + 1)))) := by
      refine ⟨_, block_set HB.out _, by simp, ?_, ?_, fun j hj => ?_, But.setCell _ _ _ _⟩
      · rw [Array.getElem?_setIfInBounds_ne (by decide), c0]; rfl
      · rw [Array.getElem?_setIfInBounds_self_of_lt hs1]; rfl
      · rw [Array.getElem?_setIfInBounds_ne (by omega)]
    go_enter Tryz.func180, Tryz.ntmps180
    go_wp2
    go_end0
    exact ⟨⟨_, rfl⟩, HP.out⟩
  · by_cases h1 : sn = 1
    · subst h1
      have HP : Hid (CntPost g cs ty 1 x o w (w.setCell ⟨g, 0, none⟩ (.int .i64 (x + 1)))) := by
        refine ⟨_, block_set HB.out _, by simp, ?_, ?_, fun j hj => ?_, But.setCell _ _ _ _⟩
        · rw [Array.getElem?_setIfInBounds_self_of_lt hs0]; rfl
        · rw [Array.getElem?_setIfInBounds_ne (by decide), c1]; rfl
        · rw [Array.getElem?_setIfInBounds_ne (by omega)]
      go_enter Tryz.func180, Tryz.ntmps180
      go_wp2
      go_end0
      exact ⟨⟨_, rfl⟩, HP.out⟩
    · have HP : Hid (CntPost g cs ty sn x o w ((w.setCell ⟨g, 0, none⟩ (.int .i64 (x + 1))).setCell ⟨g, 1, none⟩ (.int .i64 (o + 1)))) := by
        refine ⟨_, block_set (block_set HB.out _) _, by simp, ?_, ?_, fun j hj => ?_, (But.setCell _ _ _ _).trans (But.setCell _ _ _ _)⟩
        · rw [Array.getElem?_setIfInBounds_ne (by decide), Array.getElem?_setIfInBounds_self_of_lt hs0]; unfold cntX; rw [if_neg h2]
        · rw [Array.getElem?_setIfInBounds_self_of_lt (by simpa using hs1)]; unfold cntO; rw [if_neg h1]
        · rw [Array.getElem?_setIfInBounds_ne (by omega), Array.getElem?_setIfInBounds_ne (by omega)]
      go_enter Tryz.func180, Tryz.ntmps180
      go_wp2
      go_end0
      exact ⟨⟨_, rfl⟩, HP.out⟩

set_option maxHeartbeats 400000 in
theorem none_any (g : Nat) (x o : Int) (w : World) (k0 : w.cell? ⟨g, 0, none⟩ = some (.int .i64 x)) (k1 : w.cell? ⟨g, 1, none⟩ = some (.int .i64 o)) :
    Calls Tryz.prog 183 #[.pointer (some ⟨g, 0, none⟩)] w fun e w' => e = .returned (.bool (decide (x = 0 ∧ o = 0))) ∧ w' = w := by
  by_cases hx : x = 0
  · subst hx
    by_cases ho : o = 0
    · subst ho
      go_enter Tryz.func183, Tryz.ntmps183
      go_wp2
      go_ret
      exact ⟨rfl, rfl⟩
    · go_enter Tryz.func183, Tryz.ntmps183
      go_wp2
      go_ret
      exact ⟨by simp [ho], rfl⟩
  · go_enter Tryz.func183, Tryz.ntmps183
    go_wp2
    go_ret
    exact ⟨by simp [hx], rfl⟩
set_option maxHeartbeats 400000 in
theorem only_any (g : Nat) (o : Int) (w : World) (k1 : w.cell? ⟨g, 1, none⟩ = some (.int .i64 o)) :
    Calls Tryz.prog 184 #[.pointer (some ⟨g, 0, none⟩)] w fun e w' => e = .returned (.bool (decide (o = 0))) ∧ w' = w := by
  by_cases ho : o = 0
  · subst ho
    go_enter Tryz.func184, Tryz.ntmps184
    go_wp2
    go_ret
    exact ⟨rfl, rfl⟩
  · go_enter Tryz.func184, Tryz.ntmps184
    go_wp2
    go_ret
    exact ⟨by simp [ho], rfl⟩
end Go.Proofs.YtmmcockkbhnopaaGreat

namespace Go.Proofs.YtmmcockkbhnopaaGreat
open Go.RowKit

def cellsW (W : Wt) : Array Value := if W.c = true then #[.int .i64 W.x, .int .i64 W.o, .int .i64 W.t] else #[.int .i64 W.x, .int .i64 W.o]
def tyW (W : Wt) : TypeId := if W.c = true then 201 else 204
/-- A watcher in memory. -/
def WAt (w : World) (W : Wt) : Prop := w.heap[W.g]? = some (.cells (cellsW W) (tyW W) (0, 0))
theorem two_cells {cs : Array Value} {a b : Value} (h : cs.size = 2) (h0 : cs[0]? = some a) (h1 : cs[1]? = some b) : cs = #[a, b] := by
  apply Array.ext_getElem?
  intro i
  rcases i with _ | _ | i
  · rw [h0]; rfl
  · rw [h1]; rfl
  · rw [Array.getElem?_eq_none (by omega), Array.getElem?_eq_none (by simp)]
theorem three_cells {cs : Array Value} {a b c : Value} (h : cs.size = 3) (h0 : cs[0]? = some a) (h1 : cs[1]? = some b) (h2 : cs[2]? = some c) : cs = #[a, b, c] := by
  apply Array.ext_getElem?
  intro i
  rcases i with _ | _ | _ | i
  · rw [h0]; rfl
  · rw [h1]; rfl
  · rw [h2]; rfl
  · rw [Array.getElem?_eq_none (by omega), Array.getElem?_eq_none (by simp)]
def JoinPost (W : Wt) (s : Si) (w : World) : Ending → World → Prop := fun e w' => (∃ v, e = .returned v) ∧ WAt w' (joinW W s) ∧ But W.g w w'

set_option maxRecDepth 100000 in
set_option maxHeartbeats 2000000 in
theorem joinNum_any (W : Wt) (s : Si) (w : World) (hc : W.c = false) (h : WAt w W) (ho : OkW 1000 W) :
    Calls Tryz.prog 185 #[.pointer (some ⟨W.g, 0, none⟩), .agg #[.int .i64 s.f, .int .i64 s.pc, .int .i64 s.seen, .int .i64 s.target]] w (JoinPost W s w) := by
  have hb0 : w.heap[W.g]? = some (.cells #[.int .i64 W.x, .int .i64 W.o] 204 (0, 0)) := by unfold WAt cellsW tyW at h; rw [hc] at h; exact h
  have hJ : joinW W s = { W with x := cntX s.seen W.x, o := cntO s.seen W.o } := by unfold joinW; rw [hc]; rfl
  have hlt := lt_sizez hb0
  obtain ⟨wA, hwA⟩ : ∃ wA, wA = w.alloc (.cells #[.int .i64 s.f, .int .i64 s.pc, .int .i64 s.seen, .int .i64 s.target] 68) := ⟨_, rfl⟩
  have hbA : Below w.heap.size w wA := by rw [hwA]; exact (Below.refl _ _).alloc (Nat.le_refl _) _
  have hX : wA.heap[w.heap.size]? = some (.cells #[.int .i64 s.f, .int .i64 s.pc, .int .i64 s.seen, .int .i64 s.target] 68 (0, 0)) := by rw [hwA]; exact block_new _ _ _
  have HC : Hid (Calls Tryz.prog 180 #[.pointer (some ⟨W.g, 0, none⟩), .int .i64 s.seen] wA.drew fun e w' => (∃ v, e = .returned v) ∧ CntPost W.g #[.int .i64 W.x, .int .i64 W.o] 204 s.seen W.x W.o wA.drew w') := count_any W.g s.seen W.x W.o _ 204 wA.drew (block_kept hb0 hbA.drew) rfl rfl ⟨ho.1, by have := ho.2.1; omega⟩ ⟨ho.2.2.1, by have := ho.2.2.2; omega⟩
  have HJ := hidz hJ
  have HCC := hidz hc
  have HBA := hidz hbA
  have x2 : wA.cell? ⟨w.heap.size, 2, none⟩ = some (.int .i64 s.seen) := by rw [block_cell hX]; rfl
  have HLT := hidz hlt
  have HX := hidz hX
  clear hb0 hJ hbA hc h ho hlt hX
  go_enter Tryz.func185, Tryz.ntmps185
  go_upto_region 1 with fail
  rw [← hwA]
  clear hwA
  have hh : (fun w' : World => w'.cell? ⟨w.heap.size, 2, none⟩ = some (.int .i64 s.seen)) _ := x2
  refine h_begin (fun w' : World => w'.cell? ⟨w.heap.size, 2, none⟩ = some (.int .i64 s.seen)) (by kernel_rfl) ?_
  refine h_take (i := 0) (oi := _) (v := ?_) rfl (by kernel_rfl) (by kernel_rfl) (by kernel_rfl) (fun _ _ _ h => h) (by kernel_rfl) ?_ hh ?_
  rotate_left
  · intro w' hSw
    have x2 := hSw
    go_simp
    try with_reducible rfl
  simp only [Act.put, List.setIfInBounds_toArray]
  refine h_take (i := 1) (oi := _) (v := ?_) rfl (by kernel_rfl) (by kernel_rfl) (by kernel_rfl) (fun _ _ _ h => h) (by kernel_rfl) ?_ hh ?_
  rotate_left
  · intro w' hSw
    have x2 := hSw
    go_simp
    try with_reducible rfl
  simp only [Act.put]
  refine h_take (i := 2) (oi := _) (v := ?_) rfl (by kernel_rfl) (by kernel_rfl) (by kernel_rfl) (fun _ _ _ h => h) (by kernel_rfl) ?_ hh ?_
  rotate_left
  · intro w' hSw
    have x2 := hSw
    go_simp
    try with_reducible rfl
  simp only [Act.put]
  refine h_take (i := 3) (oi := _) (v := ?_) rfl (by kernel_rfl) (by kernel_rfl) (by kernel_rfl) (fun _ _ _ h => h) (by kernel_rfl) ?_ hh ?_
  rotate_left
  · intro w' hSw
    have x2 := hSw
    go_simp
    try with_reducible rfl
  simp only [Act.put]
  refine h_take (i := 4) (oi := _) (v := ?_) rfl (by kernel_rfl) (by kernel_rfl) (by kernel_rfl) (fun _ _ _ h => h) (by kernel_rfl) ?_ hh ?_
  rotate_left
  · intro w' hSw
    have x2 := hSw
    go_simp
    try with_reducible rfl
  simp only [Act.put]
  refine h_one (i := 5) (o := _) (by kernel_rfl) rfl (fun K hK => ?_)
  go_simp
  go_at_call 180
  refine HC.out.mono ?_
  rintro e wB ⟨⟨vr, rfl⟩, hP⟩
  have HR : Hid (WAt wB (joinW W s) ∧ But W.g w wB) := by
    obtain ⟨cs', h1, h2, h3, h4, -, h5⟩ := hP
    refine ⟨?_, (But.of_below (HBA.out.drew)).trans h5⟩
    unfold WAt
    rw [HJ.out]
    unfold cellsW tyW
    simp only [HCC.out]
    rw [h1, two_cells h2 h3 h4]
    rfl
  have hh5 : wB.cell? ⟨w.heap.size, 2, none⟩ = some (.int .i64 s.seen) := by
    obtain ⟨cs', h1, h2, h3, h4, -, h5⟩ := hP
    rw [block_cell (h5.kept (show w.heap.size ≠ W.g by have := HLT.out; omega) HX.out)]
    rfl
  clear hP HC
  have hh : (fun w' : World => w'.cell? ⟨w.heap.size, 2, none⟩ = some (.int .i64 s.seen)) _ := hh5
  refine hK.out _ _ hh ?_
  clear hK K
  try simp only [Act.put]
  refine wpAnyH_done (by kernel_rfl) ?_ _
  go_end0
  unfold JoinPost
  exact ⟨⟨_, rfl⟩, HR.out⟩

set_option maxRecDepth 100000 in
set_option maxHeartbeats 4000000 in
theorem joinCall_any (W : Wt) (s : Si) (w : World) (hc : W.c = true) (h : WAt w W) (ho : OkW 1000 W) :
    Calls Tryz.prog 181 #[.pointer (some ⟨W.g, 0, none⟩), .agg #[.int .i64 s.f, .int .i64 s.pc, .int .i64 s.seen, .int .i64 s.target]] w (JoinPost W s w) := by
  have hb0 : w.heap[W.g]? = some (.cells #[.int .i64 W.x, .int .i64 W.o, .int .i64 W.t] 201 (0, 0)) := by unfold WAt cellsW tyW at h; rw [hc] at h; exact h
  have hlt := lt_sizez hb0
  have hne : w.heap.size ≠ W.g := by omega
  have hne2 : W.g ≠ w.heap.size := by omega
  obtain ⟨wA, hwA⟩ : ∃ wA, wA = w.alloc (.cells #[.int .i64 s.f, .int .i64 s.pc, .int .i64 s.seen, .int .i64 s.target] 68) := ⟨_, rfl⟩
  have hbA : Below w.heap.size w wA := by rw [hwA]; exact (Below.refl _ _).alloc (Nat.le_refl _) _
  have hX : wA.heap[w.heap.size]? = some (.cells #[.int .i64 s.f, .int .i64 s.pc, .int .i64 s.seen, .int .i64 s.target] 68 (0, 0)) := by rw [hwA]; exact block_new _ _ _
  have hG := block_kept hb0 hbA
  have HN : Hid (Calls Tryz.prog 183 #[.pointer (some ⟨W.g, 0, none⟩)] wA fun e w' => e = .returned (.bool (decide (W.x = 0 ∧ W.o = 0))) ∧ w' = wA) := none_any W.g W.x W.o wA (by rw [block_cell hG]; rfl) (by rw [block_cell hG]; rfl)
  -- behind the first test: the target is the one that fits
  obtain ⟨T, hT⟩ : ∃ T, T = tgtJ W s := ⟨_, rfl⟩
  have HT := hidz hT
  clear hT
  have HKB : Hid (∀ (wB : World) (sn : Int), wB.heap[W.g]? = some (.cells #[.int .i64 W.x, .int .i64 W.o, .int .i64 T] 201 (0, 0)) → But W.g w wB → sn = seenJ W s → Calls Tryz.prog 180 #[.pointer (some ⟨W.g, 0, none⟩), .int .i64 sn] wB fun e w' => (∃ v, e = .returned v) ∧ WAt w' (joinW W s) ∧ But W.g w w' ∧ But W.g wB w') := by
    intro wB sn hg hbt hsn
    subst hsn
    refine (count_any W.g (seenJ W s) W.x W.o _ 201 wB hg rfl rfl ⟨ho.1, by have := ho.2.1; omega⟩ ⟨ho.2.2.1, by have := ho.2.2.2; omega⟩).mono ?_
    rintro e w' ⟨hv, cs', h1, h2, h3, h4, h5, h6⟩
    refine ⟨hv, ?_, hbt.trans h6, h6⟩
    have e1 := three_cells (c := .int .i64 T) h2 h3 h4 (by rw [h5 2 (Nat.le_refl _)]; rfl)
    unfold WAt joinW cellsW tyW
    simp only [hc, if_true]
    rw [h1, e1, HT.out]
  have HBA : Hid (But W.g w wA) := But.of_below hbA
  have HX := hidz hX
  have HG := hidz hG
  clear hb0 hbA h ho hlt hc hX hG
  go_enter Tryz.func181, Tryz.ntmps181
  go_wp2_with fail
  rw [← hwA]
  clear hwA
  refine HN.out.mono ?_
  rintro e w1 ⟨rfl, rfl⟩
  by_cases hz : W.x = 0 ∧ W.o = 0
  · rw [decide_eq_true hz]
    have hTs : T = s.target := by rw [HT.out]; unfold tgtJ; rw [if_pos hz]
    subst hTs
    have x3 : w1.cell? ⟨w.heap.size, 3, none⟩ = some (.int .i64 s.target) := by rw [block_cell HX.out]; rfl
    have hfz : w1.frozen? ⟨W.g, 2, none⟩ = false := block_free HG.out 2
    have hcz : w1.cell? ⟨W.g, 2, none⟩ = some (.int .i64 W.t) := by rw [block_cell HG.out]; rfl
    obtain ⟨wB, hwB⟩ : ∃ wB, wB = w1.setCell ⟨W.g, 2, none⟩ (.int .i64 s.target) := ⟨_, rfl⟩
    have HGB : Hid (wB.heap[W.g]? = some (.cells #[.int .i64 W.x, .int .i64 W.o, .int .i64 s.target] 201 (0, 0))) := by rw [hwB]; exact block_set HG.out _
    have HXB : Hid (wB.heap[w.heap.size]? = some (.cells #[.int .i64 s.f, .int .i64 s.pc, .int .i64 s.seen, .int .i64 s.target] 68 (0, 0))) := by rw [hwB]; show _ = _; rw [Below.heap_setCell _ _ _ _ hne]; exact HX.out
    have HBB : Hid (But W.g w wB) := by rw [hwB]; exact HBA.out.trans (But.setCell _ _ _ _)
    have HSN : Hid (s.seen = seenJ W s) := by show _ = _; unfold seenJ; rw [if_pos HT.out]
    go_upto_region 3 with fail
    rw [← hwB]
    clear hwB hfz hcz x3 HX HG HBA
    have y3 : wB.cell? ⟨w.heap.size, 3, none⟩ = some (.int .i64 s.target) := by rw [block_cell HXB.out]; rfl
    have z3 : wB.cell? ⟨W.g, 2, none⟩ = some (.int .i64 s.target) := by rw [block_cell HGB.out]; rfl
    have z0 := block_cell HGB.out
    go_quiet (fail)
    clear y3 z3 z0
    go_upto_region 5 with fail
    obtain ⟨wq, hwq⟩ : ∃ wq, wq = wB.drewN nq := ⟨_, rfl⟩
    have hbq : Below wB.heap.size wB wq := by rw [hwq]; exact below_draws (Below.refl _ _) nq
    have HGQ := hidz (block_kept HGB.out hbq)
    have HXQ := hidz (block_kept HXB.out hbq)
    have HBQ := hidz (HBB.out.trans (But.of_below hbq))
    rw [← hwq]
    clear hwq hbq
    have x2 : wq.cell? ⟨w.heap.size, 2, none⟩ = some (.int .i64 s.seen) := by rw [block_cell HXQ.out]; rfl
    have hh : (fun w' : World => w'.cell? ⟨w.heap.size, 2, none⟩ = some (.int .i64 s.seen)) _ := x2
    refine h_begin (fun w' : World => w'.cell? ⟨w.heap.size, 2, none⟩ = some (.int .i64 s.seen)) (by kernel_rfl) ?_
    refine h_take (i := 0) (oi := _) (v := ?_) rfl (by kernel_rfl) (by kernel_rfl) (by kernel_rfl) (fun _ _ _ h => h) (by kernel_rfl) ?_ hh ?_
    rotate_left
    · intro w' hSw
      have x2 := hSw
      go_simp
      try with_reducible rfl
    simp only [Act.put, List.setIfInBounds_toArray]
    refine h_take (i := 1) (oi := _) (v := ?_) rfl (by kernel_rfl) (by kernel_rfl) (by kernel_rfl) (fun _ _ _ h => h) (by kernel_rfl) ?_ hh ?_
    rotate_left
    · intro w' hSw
      have x2 := hSw
      go_simp
      try with_reducible rfl
    simp only [Act.put]
    refine h_take (i := 2) (oi := _) (v := ?_) rfl (by kernel_rfl) (by kernel_rfl) (by kernel_rfl) (fun _ _ _ h => h) (by kernel_rfl) ?_ hh ?_
    rotate_left
    · intro w' hSw
      have x2 := hSw
      go_simp
      try with_reducible rfl
    simp only [Act.put]
    refine h_take (i := 3) (oi := _) (v := ?_) rfl (by kernel_rfl) (by kernel_rfl) (by kernel_rfl) (fun _ _ _ h => h) (by kernel_rfl) ?_ hh ?_
    rotate_left
    · intro w' hSw
      have x2 := hSw
      go_simp
      try with_reducible rfl
    simp only [Act.put]
    refine h_take (i := 4) (oi := _) (v := ?_) rfl (by kernel_rfl) (by kernel_rfl) (by kernel_rfl) (fun _ _ _ h => h) (by kernel_rfl) ?_ hh ?_
    rotate_left
    · intro w' hSw
      have x2 := hSw
      go_simp
      try with_reducible rfl
    simp only [Act.put]
    refine h_one (i := 5) (o := _) (by kernel_rfl) rfl (fun K hK => ?_)
    go_simp
    go_at_call 180
    refine (HKB.out wq.drew s.seen HGQ.out (HBQ.out.trans (But.of_below (Below.refl _ _).drew)) HSN.out).mono ?_
    rintro e wC ⟨⟨vr, rfl⟩, hP1, hP2, hP3⟩
    have HR := hidz (And.intro hP1 hP2)
    have hh5 : wC.cell? ⟨w.heap.size, 2, none⟩ = some (.int .i64 s.seen) := by
      rw [block_cell (hP3.kept hne (show wq.drew.heap[w.heap.size]? = _ from HXQ.out))]
      rfl
    clear hP1 hP2 hP3
    have hh : (fun w' : World => w'.cell? ⟨w.heap.size, 2, none⟩ = some (.int .i64 s.seen)) _ := hh5
    refine hK.out _ _ hh ?_
    clear hK K
    try simp only [Act.put]
    refine wpAnyH_done (by kernel_rfl) ?_ _
    go_end0
    unfold JoinPost
    exact ⟨⟨_, rfl⟩, HR.out⟩
  · rw [decide_eq_false hz]
    have hTs : T = W.t := by rw [HT.out]; unfold tgtJ; rw [if_neg hz]
    subst hTs
    have z3 : w1.cell? ⟨W.g, 2, none⟩ = some (.int .i64 W.t) := by rw [block_cell HG.out]; rfl
    have y3 : w1.cell? ⟨w.heap.size, 3, none⟩ = some (.int .i64 s.target) := by rw [block_cell HX.out]; rfl
    go_upto_region 3 with fail
    by_cases hst : s.target = W.t
    · have HSN : Hid (s.seen = seenJ W s) := by show _ = _; unfold seenJ; rw [if_pos (hst.trans HT.out)]
      have hb1 : (s.target != W.t) = false := by simpa using hst
      obtain ⟨wB, hwB⟩ : ∃ wB, wB = w1 := ⟨_, rfl⟩
      have HGB : Hid (wB.heap[W.g]? = some (.cells #[.int .i64 W.x, .int .i64 W.o, .int .i64 W.t] 201 (0, 0))) := by rw [hwB]; exact HG.out
      have HXB : Hid (wB.heap[w.heap.size]? = some (.cells #[.int .i64 s.f, .int .i64 s.pc, .int .i64 s.seen, .int .i64 s.target] 68 (0, 0))) := by rw [hwB]; exact HX.out
      have HBB : Hid (But W.g w wB) := by rw [hwB]; exact HBA.out
      clear hst
      go_quiet (fail)
      clear y3 z3 hb1
      go_upto_region 5 with fail
      subst hwB
      obtain ⟨wq, hwq⟩ : ∃ wq, wq = wB.drewN nq := ⟨_, rfl⟩
      have hbq : Below wB.heap.size wB wq := by rw [hwq]; exact below_draws (Below.refl _ _) nq
      have HGQ := hidz (block_kept HGB.out hbq)
      have HXQ := hidz (block_kept HXB.out hbq)
      have HBQ := hidz (HBB.out.trans (But.of_below hbq))
      rw [← hwq]
      clear hwq hbq
      have x2 : wq.cell? ⟨w.heap.size, 2, none⟩ = some (.int .i64 s.seen) := by rw [block_cell HXQ.out]; rfl
      have hh : (fun w' : World => w'.cell? ⟨w.heap.size, 2, none⟩ = some (.int .i64 s.seen)) _ := x2
      refine h_begin (fun w' : World => w'.cell? ⟨w.heap.size, 2, none⟩ = some (.int .i64 s.seen)) (by kernel_rfl) ?_
      refine h_take (i := 0) (oi := _) (v := ?_) rfl (by kernel_rfl) (by kernel_rfl) (by kernel_rfl) (fun _ _ _ h => h) (by kernel_rfl) ?_ hh ?_
      rotate_left
      · intro w' hSw
        have x2 := hSw
        go_simp
        try with_reducible rfl
      simp only [Act.put, List.setIfInBounds_toArray]
      refine h_take (i := 1) (oi := _) (v := ?_) rfl (by kernel_rfl) (by kernel_rfl) (by kernel_rfl) (fun _ _ _ h => h) (by kernel_rfl) ?_ hh ?_
      rotate_left
      · intro w' hSw
        have x2 := hSw
        go_simp
        try with_reducible rfl
      simp only [Act.put]
      refine h_take (i := 2) (oi := _) (v := ?_) rfl (by kernel_rfl) (by kernel_rfl) (by kernel_rfl) (fun _ _ _ h => h) (by kernel_rfl) ?_ hh ?_
      rotate_left
      · intro w' hSw
        have x2 := hSw
        go_simp
        try with_reducible rfl
      simp only [Act.put]
      refine h_take (i := 3) (oi := _) (v := ?_) rfl (by kernel_rfl) (by kernel_rfl) (by kernel_rfl) (fun _ _ _ h => h) (by kernel_rfl) ?_ hh ?_
      rotate_left
      · intro w' hSw
        have x2 := hSw
        go_simp
        try with_reducible rfl
      simp only [Act.put]
      refine h_take (i := 4) (oi := _) (v := ?_) rfl (by kernel_rfl) (by kernel_rfl) (by kernel_rfl) (fun _ _ _ h => h) (by kernel_rfl) ?_ hh ?_
      rotate_left
      · intro w' hSw
        have x2 := hSw
        go_simp
        try with_reducible rfl
      simp only [Act.put]
      refine h_one (i := 5) (o := _) (by kernel_rfl) rfl (fun K hK => ?_)
      go_simp
      go_at_call 180
      refine (HKB.out wq.drew s.seen HGQ.out (HBQ.out.trans (But.of_below (Below.refl _ _).drew)) HSN.out).mono ?_
      rintro e wC ⟨⟨vr, rfl⟩, hP1, hP2, hP3⟩
      have HR := hidz (And.intro hP1 hP2)
      have hh5 : wC.cell? ⟨w.heap.size, 2, none⟩ = some (.int .i64 s.seen) := by
        rw [block_cell (hP3.kept hne (show wq.drew.heap[w.heap.size]? = _ from HXQ.out))]
        rfl
      clear hP1 hP2 hP3
      have hh : (fun w' : World => w'.cell? ⟨w.heap.size, 2, none⟩ = some (.int .i64 s.seen)) _ := hh5
      refine hK.out _ _ hh ?_
      clear hK K
      try simp only [Act.put]
      refine wpAnyH_done (by kernel_rfl) ?_ _
      go_end0
      unfold JoinPost
      exact ⟨⟨_, rfl⟩, HR.out⟩
    · have HSN : Hid (2 = seenJ W s) := by show _ = _; unfold seenJ; rw [if_neg (fun q => hst (q.trans HT.out.symm))]
      have hb1 : (s.target != W.t) = true := by simpa using hst
      have hfz : w1.frozen? ⟨w.heap.size, 2, none⟩ = false := block_free HX.out 2
      have hcz : w1.cell? ⟨w.heap.size, 2, none⟩ = some (.int .i64 s.seen) := by rw [block_cell HX.out]; rfl
      clear hst
      go_quiet (fail)
      go_upto_region 4 with fail
      obtain ⟨wq, hwq⟩ : ∃ wq, wq = w1.drewN nq := ⟨_, rfl⟩
      have hbq : Below w1.heap.size w1 wq := by rw [hwq]; exact below_draws (Below.refl _ _) nq
      have HGq := hidz (block_kept HG.out hbq)
      have HXq := hidz (block_kept HX.out hbq)
      have HBq := hidz (HBA.out.trans (But.of_below hbq))
      rw [← hwq]
      clear hwq hbq y3 z3 hb1 hfz hcz
      have hfz : wq.frozen? ⟨w.heap.size, 2, none⟩ = false := block_free HXq.out 2
      have hcz : wq.cell? ⟨w.heap.size, 2, none⟩ = some (.int .i64 s.seen) := by rw [block_cell HXq.out]; rfl
      obtain ⟨wB, hwB⟩ : ∃ wB, wB = wq.setCell ⟨w.heap.size, 2, none⟩ (.int .i64 2) := ⟨_, rfl⟩
      have HGQ : Hid (wB.heap[W.g]? = some (.cells #[.int .i64 W.x, .int .i64 W.o, .int .i64 W.t] 201 (0, 0))) := by rw [hwB]; show _ = _; rw [Below.heap_setCell _ _ _ _ hne2]; exact HGq.out
      have HXQ : Hid (wB.heap[w.heap.size]? = some (.cells #[.int .i64 s.f, .int .i64 s.pc, .int .i64 2, .int .i64 s.target] 68 (0, 0))) := by rw [hwB]; exact block_set HXq.out _
      have HBQ : Hid (But W.g w wB) := by
        rw [hwB]
        exact ⟨HBq.out.os, HBq.out.tape, HBq.out.output, by have := HBq.out.size; simpa [World.setCell] using this, fun k hk hg => by rw [Below.heap_setCell _ _ _ _ (show k ≠ w.heap.size by omega)]; exact HBq.out.block k hk hg⟩
      go_upto_region 5 with fail
      rw [← hwB]
      clear hwB hfz hcz
      have x2 : wB.cell? ⟨w.heap.size, 2, none⟩ = some (.int .i64 2) := by rw [block_cell HXQ.out]; rfl
      have hh : (fun w' : World => w'.cell? ⟨w.heap.size, 2, none⟩ = some (.int .i64 2)) _ := x2
      refine h_begin (fun w' : World => w'.cell? ⟨w.heap.size, 2, none⟩ = some (.int .i64 2)) (by kernel_rfl) ?_
      refine h_take (i := 0) (oi := _) (v := ?_) rfl (by kernel_rfl) (by kernel_rfl) (by kernel_rfl) (fun _ _ _ h => h) (by kernel_rfl) ?_ hh ?_
      rotate_left
      · intro w' hSw
        have x2 := hSw
        go_simp
        try with_reducible rfl
      simp only [Act.put, List.setIfInBounds_toArray]
      refine h_take (i := 1) (oi := _) (v := ?_) rfl (by kernel_rfl) (by kernel_rfl) (by kernel_rfl) (fun _ _ _ h => h) (by kernel_rfl) ?_ hh ?_
      rotate_left
      · intro w' hSw
        have x2 := hSw
        go_simp
        try with_reducible rfl
      simp only [Act.put]
      refine h_take (i := 2) (oi := _) (v := ?_) rfl (by kernel_rfl) (by kernel_rfl) (by kernel_rfl) (fun _ _ _ h => h) (by kernel_rfl) ?_ hh ?_
      rotate_left
      · intro w' hSw
        have x2 := hSw
        go_simp
        try with_reducible rfl
      simp only [Act.put]
      refine h_take (i := 3) (oi := _) (v := ?_) rfl (by kernel_rfl) (by kernel_rfl) (by kernel_rfl) (fun _ _ _ h => h) (by kernel_rfl) ?_ hh ?_
      rotate_left
      · intro w' hSw
        have x2 := hSw
        go_simp
        try with_reducible rfl
      simp only [Act.put]
      refine h_take (i := 4) (oi := _) (v := ?_) rfl (by kernel_rfl) (by kernel_rfl) (by kernel_rfl) (fun _ _ _ h => h) (by kernel_rfl) ?_ hh ?_
      rotate_left
      · intro w' hSw
        have x2 := hSw
        go_simp
        try with_reducible rfl
      simp only [Act.put]
      refine h_one (i := 5) (o := _) (by kernel_rfl) rfl (fun K hK => ?_)
      go_simp
      go_at_call 180
      refine (HKB.out wB.drew 2 HGQ.out (HBQ.out.trans (But.of_below (Below.refl _ _).drew)) HSN.out).mono ?_
      rintro e wC ⟨⟨vr, rfl⟩, hP1, hP2, hP3⟩
      have HR := hidz (And.intro hP1 hP2)
      have hh5 : wC.cell? ⟨w.heap.size, 2, none⟩ = some (.int .i64 2) := by
        rw [block_cell (hP3.kept hne (show wB.drew.heap[w.heap.size]? = _ from HXQ.out))]
        rfl
      clear hP1 hP2 hP3
      have hh : (fun w' : World => w'.cell? ⟨w.heap.size, 2, none⟩ = some (.int .i64 2)) _ := hh5
      refine hK.out _ _ hh ?_
      clear hK K
      try simp only [Act.put]
      refine wpAnyH_done (by kernel_rfl) ?_ _
      go_end0
      unfold JoinPost
      exact ⟨⟨_, rfl⟩, HR.out⟩
end Go.Proofs.YtmmcockkbhnopaaGreat
