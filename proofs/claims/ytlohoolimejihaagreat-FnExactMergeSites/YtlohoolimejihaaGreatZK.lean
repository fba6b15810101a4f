/-
  A map by places whose values are watchers: looked up, and with a key more.
-/
import Derived.Test.YtlohoolimejihaaGreatZW
import Derived.Laws.StructEq
import Derived.LaidEql
import Derived.Maps.OwnSet
namespace Go.Proofs.YtlohoolimejihaaGreat
open Go.RowKit

theorem pB_andz (P Q : Prop) : pB (P ∧ Q) = (pB P && pB Q) := by
  rw [Bool.eq_iff_iff]
  simp [pB]
theorem int_eqz (a b : Int) : (a == b) = pB (a = b) := by
  rw [Bool.eq_iff_iff]
  simp [pB]
set_option maxRecDepth 100000 in
theorem eqInPl (a b c e : Int) (W : World) : (Op.equalIn 10000 134 (.agg #[.int .i64 a, .int .i64 b]) (.agg #[.int .i64 c, .int .i64 e])).run Tryz.prog W = .ok (pB (a = c ∧ b = e)) W := by
  have h : ∀ d : Nat, (Op.equalIn (d + 1 + 1) 134 (.agg #[.int .i64 a, .int .i64 b]) (.agg #[.int .i64 c, .int .i64 e])).run Tryz.prog W = .ok (pB (a = c ∧ b = e)) W := fun d => by
    have ht : Tryz.prog.underlying 134 = some (.struct (Tryz.prog.fieldsOf 134)) := by kernel_rfl
    have hp : Tryz.prog.stoodInHeld 134 = false := by kernel_rfl
    have hf : (Tryz.prog.fieldsOf 134).toList.map (fun f => (f.name, f.type, f.offset)) = [("fn", 3, 0), ("pc", 3, 1)] := by kernel_rfl
    rw [run_equalIn_struct W (d + 1) 134 _ _ ht hp]
    have p0 : ∀ (a b : Int) (W : World), (part 3 #[.int .i64 a, .int .i64 b] 0).run Tryz.prog W = .ok (.int .i64 a) W := fun _ _ _ => by kernel_rfl
    have p1 : ∀ (a b : Int) (W : World), (part 3 #[.int .i64 a, .int .i64 b] 1).run Tryz.prog W = .ok (.int .i64 b) W := fun _ _ _ => by kernel_rfl
    rcases hL : (Tryz.prog.fieldsOf 134).toList with _ | ⟨f1, _ | ⟨f2, _ | _⟩⟩
    · rw [hL] at hf; simp at hf
    · rw [hL] at hf; simp at hf
    · rw [hL] at hf
      simp only [List.map_cons, List.map_nil, List.cons.injEq, Prod.mk.injEq, and_true] at hf
      obtain ⟨⟨n1, t1, o1⟩, n2, t2, o2⟩ := hf
      have e1 := run_equalIn_int (P := Tryz.prog) W d 3 .i64 .i64 a c Tryz.underlying3
      have e2 := run_equalIn_int (P := Tryz.prog) W d 3 .i64 .i64 b e Tryz.underlying3
      rw [int_eqz] at e1 e2
      have hb : pB (a = c ∧ b = e) = (pB (a = c) && pB (b = e)) := pB_andz _ _
      rw [hb]
      cases hk : pB (a = c) <;> cases hn : pB (b = e) <;> rw [hk] at e1 <;> rw [hn] at e2 <;>
        simp [Op.eqFields, n1, t1, o1, n2, t2, o2, p0, p1, e1, e2]
    · rw [hL] at hf; simp at hf
  exact h 9998

/-- A watcher's key, and its value. -/
def keyW (W : Wt) : Value := .agg #[.int .i64 W.f, .int .i64 W.p]
def valW (W : Wt) : Value := if W.c = true then .iface 197 (.pointer (some ⟨W.g, 0, none⟩)) else .iface 202 (.pointer (some ⟨W.g, 0, none⟩))
def Ents (es : List MapEntry) (ws : List Wt) : Prop := es.map (fun e => (e.key, e.val)) = ws.map (fun W => (keyW W, valW W))
/-- Entries bear stamps, each its own. -/
def StampOk (es : List MapEntry) (c : Nat) : Prop := (∀ e ∈ es, e.born < c) ∧ es.Pairwise fun d e => d.born ≠ e.born
/-- A map of these watchers. -/
def MapW (w : World) (b : Nat) (ws : List Wt) : Prop := ∃ es c, w.heap[b]? = some (.map es c) ∧ Ents es.toList ws ∧ StampOk es.toList c

theorem eq_keyz (a b c e : Int) (w : World) : (Op.equal 134 (.agg #[.int .i64 a, .int .i64 b]) (.agg #[.int .i64 c, .int .i64 e])).run Tryz.prog w = .ok (decide (a = c ∧ b = e)) w := by
  have h := eqInPl a b c e w
  have hd : pB (a = c ∧ b = e) = decide (a = c ∧ b = e) := by
    by_cases q : a = c ∧ b = e
    · rw [pB_yes q]; simp [q]
    · rw [pB_no q]; simp [q]
  rw [hd] at h
  exact h
theorem check_keyz (em : Bool) (a b : Int) (w : World) : (Instr.checkKey em 10000 134 (.agg #[.int .i64 a, .int .i64 b])).run Tryz.prog w = .ok () w := by
  have h : ∀ d : Nat, (Instr.checkKey em (d + 1 + 1) 134 (.agg #[.int .i64 a, .int .i64 b])).run Tryz.prog w = .ok () w := fun d => by kernel_rfl
  exact h 9998

theorem find_no (f p : Int) (w : World) : ∀ (es : List MapEntry) (ws : List Wt) (i : Nat), Ents es ws → (∀ W ∈ ws, ¬ (W.f = f ∧ W.p = p)) → (Instr.findAsking 134 (.agg #[.int .i64 f, .int .i64 p]) es i).run Tryz.prog w = .ok none w
  | [], _, _, _, _ => by simp [Instr.findAsking]
  | e :: es, ws, i, h, hno => by
    cases ws with
    | nil => simp [Ents] at h
    | cons W ws =>
      simp only [Ents, List.map_cons, List.cons.injEq, Prod.mk.injEq] at h
      obtain ⟨⟨hk, hv⟩, ht⟩ := h
      have h1 := find_no f p w es ws (i + 1) ht (fun V hV => hno V (List.mem_cons_of_mem _ hV))
      have h2 := hno W List.mem_cons_self
      have h4 : decide (f = W.f ∧ p = W.p) = false := decide_eq_false (fun q => h2 ⟨q.1.symm, q.2.symm⟩)
      simp only [Instr.findAsking, Sem.run_bind, hk, keyW, eq_keyz, h4]
      simpa using h1
theorem find_yes (f p : Int) (w : World) (W : Wt) (l2 : List Wt) (h1 : W.f = f) (h2 : W.p = p) : ∀ (l1 : List Wt) (es : List MapEntry) (i : Nat), Ents es (l1 ++ W :: l2) → (∀ V ∈ l1, ¬ (V.f = f ∧ V.p = p)) → (Instr.findAsking 134 (.agg #[.int .i64 f, .int .i64 p]) es i).run Tryz.prog w = .ok (some (i + l1.length, valW W)) w
  | [], es, i, h, _ => by
    cases es with
    | nil => simp [Ents] at h
    | cons e es =>
      simp only [Ents, List.nil_append, List.map_cons, List.cons.injEq, Prod.mk.injEq] at h
      obtain ⟨⟨hk, hv⟩, ht⟩ := h
      have h4 : decide (f = W.f ∧ p = W.p) = true := decide_eq_true ⟨h1.symm, h2.symm⟩
      simp only [Instr.findAsking, Sem.run_bind, hk, keyW, eq_keyz, h4, hv]
      simp
  | V :: l1, es, i, h, hno => by
    cases es with
    | nil => simp [Ents] at h
    | cons e es =>
      simp only [Ents, List.cons_append, List.map_cons, List.cons.injEq, Prod.mk.injEq] at h
      obtain ⟨⟨hk, hv⟩, ht⟩ := h
      have h5 := find_yes f p w W l2 h1 h2 l1 es (i + 1) ht (fun U hU => hno U (List.mem_cons_of_mem _ hU))
      have h6 := hno V List.mem_cons_self
      have h4 : decide (f = V.f ∧ p = V.p) = false := decide_eq_false (fun q => h6 ⟨q.1.symm, q.2.symm⟩)
      simp only [Instr.findAsking, Sem.run_bind, hk, keyW, eq_keyz, h4]
      rw [show i + (V :: l1).length = i + 1 + l1.length by simp; omega]
      simpa using h5
theorem find_key_no (f p : Int) (w : World) (es : List MapEntry) (ws : List Wt) (h : Ents es ws) (hno : ∀ W ∈ ws, ¬ (W.f = f ∧ W.p = p)) : (Instr.findKey 134 (.agg #[.int .i64 f, .int .i64 p]) es).run Tryz.prog w = .ok none w := by
  have ht : Tryz.prog.underlying 134 = some (.struct (Tryz.prog.fieldsOf 134)) := by kernel_rfl
  have h1 := find_no f p w es ws 0 h hno
  cases es with
  | nil => simp [Instr.findKey, run_underlying ht, Instr.findNow]
  | cons e es =>
    have hn : Instr.findNow (.struct (Tryz.prog.fieldsOf 134)) (.agg #[.int .i64 f, .int .i64 p]) (e :: es) 0 = none := rfl
    simp only [Instr.findKey, Sem.run_bind, run_underlying ht]
    simpa [hn] using h1
theorem find_key_yes (f p : Int) (w : World) (es : List MapEntry) (l1 l2 : List Wt) (W : Wt) (h : Ents es (l1 ++ W :: l2)) (h1 : W.f = f) (h2 : W.p = p) (hno : ∀ V ∈ l1, ¬ (V.f = f ∧ V.p = p)) : (Instr.findKey 134 (.agg #[.int .i64 f, .int .i64 p]) es).run Tryz.prog w = .ok (some (l1.length, valW W)) w := by
  have ht : Tryz.prog.underlying 134 = some (.struct (Tryz.prog.fieldsOf 134)) := by kernel_rfl
  have h3 := find_yes f p w W l2 h1 h2 l1 es 0 h hno
  rw [Nat.zero_add] at h3
  cases es with
  | nil =>
    have := congrArg List.length h
    simp at this
  | cons e es =>
    have hn : Instr.findNow (.struct (Tryz.prog.fieldsOf 134)) (.agg #[.int .i64 f, .int .i64 p]) (e :: es) 0 = none := rfl
    simp only [Instr.findKey, Sem.run_bind, run_underlying ht]
    simpa [hn] using h3
theorem look_no (f p : Int) (b : Nat) (ws : List Wt) (w : World) (hm : MapW w b ws) (hno : ∀ W ∈ ws, ¬ (W.f = f ∧ W.p = p)) :
    (Instr.lookup 75 (.map (some b)) (.agg #[.int .i64 f, .int .i64 p]) true).run Tryz.prog w = .ok (.tuple #[.nilIface, .bool false]) w := by
  obtain ⟨es, c, hb, he⟩ := hm
  have hz : (zeroValue 131).run Tryz.prog w = .ok .nilIface w := by kernel_rfl
  simp [Instr.lookup, run_underlying Tryz.underlying75, MapKept.run_getObj_map hb, check_keyz, find_key_no f p w _ _ he.1 hno, hz]
theorem look_yes (f p : Int) (b : Nat) (l1 l2 : List Wt) (W : Wt) (w : World) (hm : MapW w b (l1 ++ W :: l2)) (h1 : W.f = f) (h2 : W.p = p) (hno : ∀ V ∈ l1, ¬ (V.f = f ∧ V.p = p)) :
    (Instr.lookup 75 (.map (some b)) (.agg #[.int .i64 f, .int .i64 p]) true).run Tryz.prog w = .ok (.tuple #[valW W, .bool true]) w ∧
    (Instr.lookup 75 (.map (some b)) (.agg #[.int .i64 f, .int .i64 p]) false).run Tryz.prog w = .ok (valW W) w := by
  obtain ⟨es, c, hb, he⟩ := hm
  constructor <;> simp [Instr.lookup, run_underlying Tryz.underlying75, MapKept.run_getObj_map hb, check_keyz, find_key_yes f p w _ l1 l2 W he.1 h1 h2 hno]
/-- A key more. -/
theorem put_new (W : Wt) (b : Nat) (ws : List Wt) (w : World) (hm : MapW w b ws) (hno : ∀ V ∈ ws, ¬ (V.f = W.f ∧ V.p = W.p)) :
    ∃ es c, (Instr.mapUpdate 75 (.map (some b)) (keyW W) (valW W)).run Tryz.prog w = .ok () (ChangeMaps.setBlock w b (.map es c)) ∧ Ents es.toList (ws ++ [W]) ∧ StampOk es.toList c := by
  obtain ⟨es, c, hb, he, hst⟩ := hm
  refine ⟨es.push ⟨keyW W, valW W, c⟩, c + 1, ?_, ?_, ?_⟩
  · unfold keyW
    simp [Instr.mapUpdate, run_underlying Tryz.underlying75, MapKept.run_getObj_map hb, check_keyz, find_key_no W.f W.p w _ _ he hno, MapKept.run_setObj_map _ hb, ChangeMaps.setBlock]
  · unfold Ents at he ⊢
    simp [he]
  · rw [Array.toList_push]
    refine ⟨fun e h => ?_, ?_⟩
    · rcases List.mem_append.1 h with h | h
      · have := hst.1 e h; omega
      · rw [List.mem_singleton.1 h]; exact Nat.lt_succ_self c
    · rw [List.pairwise_append]
      refine ⟨hst.2, by simp, fun d hd e h => ?_⟩
      rw [List.mem_singleton.1 h]
      have := hst.1 d hd
      show d.born ≠ c
      omega
/-- A key that is there stands at one place among the others. -/
theorem split_place {ws : List Wt} {f p : Int} (h : ∃ W ∈ ws, W.f = f ∧ W.p = p) : ∃ l1 W l2, ws = l1 ++ W :: l2 ∧ W.f = f ∧ W.p = p ∧ ∀ V ∈ l1, ¬ (V.f = f ∧ V.p = p) := by
  induction ws with
  | nil => obtain ⟨W, hW, -⟩ := h; cases hW
  | cons V ws ih =>
    by_cases hv : V.f = f ∧ V.p = p
    · exact ⟨[], V, ws, rfl, hv.1, hv.2, fun U hU => by cases hU⟩
    · obtain ⟨W, hW, hw⟩ := h
      rcases List.mem_cons.1 hW with rfl | hW
      · exact absurd hw hv
      · obtain ⟨l1, W', l2, rfl, e1, e2, e3⟩ := ih ⟨W, hW, hw⟩
        refine ⟨V :: l1, W', l2, rfl, e1, e2, fun U hU => ?_⟩
        rcases List.mem_cons.1 hU with rfl | hU
        · exact hv
        · exact e3 U hU
end Go.Proofs.YtlohoolimejihaaGreat
