/-
  A row of bytes that holds a text: text appended, turned into a string.
  What strings.Builder's WriteString does: the text grows by what is written.
  What strings.Builder's String gives.
-/
import Derived.Test.YtfefbgemcakabaaGreatDoorVQ2
import Derived.Test.YtfefbgemcakabaaGreatDoorMem3
import Derived.Lib.AppendStr
import Derived.Deep.RegionLaw
import Derived.Lib.Builder
import Derived.Lib.UnsafeStr
import Derived.Laws.Externs
import Derived.Test.YtfefbgemcakabaaGreatDoorShelf
import Derived.Deep.CutRange
namespace Go.Proofs.YtfefbgemcakabaaGreatDoor
open Go.RowKit

/-- A byte slice of the call's own that holds this text. -/
def TBuf (w : World) (B : Nat) (v : Value) (s : ByteArray) : Prop := w.ownsRow B 5 1 v s.size (Lib.strCells s)
theorem strCells_append (a b : ByteArray) : Lib.strCells (a ++ b) = Lib.strCells a ++ Lib.strCells b := by simp [Lib.strCells]
theorem TBuf.add {w : World} {B : Nat} {v : Value} {s t : ByteArray} (h : w.ownsRow B 5 1 v (s.size + t.size) (Lib.strCells s ++ Lib.strCells t)) : TBuf w B v (s ++ t) := by
  unfold TBuf
  rw [strCells_append, ByteArray.size_append]
  exact h
theorem TBuf.keeps {w w' : World} {B lo : Nat} {l : List Nat} {v : Value} {s : ByteArray} (h : TBuf w B v s) (hk : Keeps lo l w w') (h5 : 5 ∉ l) : TBuf w' B v s := by
  refine ⟨h.1, ?_⟩
  rcases h.2 with hn | ⟨g, cap, cur, hv, hb, hg, r⟩
  · exact .inl hn
  · exact .inr ⟨g, cap, cur, hv, hb, hk.cell hg h5, r⟩
theorem TBuf.below {w w' : World} {B : Nat} {v : Value} {s : ByteArray} (h : TBuf w B v s) (hb : Below w.heap.size w w') : TBuf w' B v s := h.keeps (lo := 0) (l := []) (Keeps.below hb) (by simp)
theorem strOfNums_text (s : ByteArray) : strOfNums (s.data.toList.map fun b => (b.toNat : Int)) = s := by
  unfold strOfNums
  apply ByteArray.ext
  simp [Function.comp_def]
theorem TBuf.text {w : World} {B : Nat} {v : Value} {s : ByteArray} (h : TBuf w B v s) : (convert 88 9 v).run Tryz.prog w = .ok (.string s) w := by
  rcases h.2 with ⟨rfl, hn⟩ | ⟨g, cap, cur, rfl, hb, hh, hnc, -, hs, htake⟩
  · have hs0 : s = ⟨#[]⟩ := by
      apply ByteArray.ext
      exact Array.eq_empty_of_size_eq_zero hn
    subst hs0
    rw [run_convert_bytes_string w 88 9 5 none 0 0 Tryz.underlying88 Tryz.underlying5 Tryz.underlying9]
    rfl
  · have := run_convert_bytes_arg (P := Tryz.prog) w 88 5 Tryz.underlying88 Tryz.underlying5 g 0 s.size cap (s.data.toList.map fun b => (b.toNat : Int)) (by simp) (fun i hi => by
      rw [block_cell hh, Nat.zero_add]
      have h1 : (cur.toList.take (s.size * 1))[i]? = (Lib.strCells s)[i]? := by rw [htake]
      rw [List.getElem?_take_of_lt (by omega), Array.getElem?_toList] at h1
      rw [h1]
      have hi' : i < s.data.toList.length := by simpa using hi
      simp only [Lib.strCells, List.getElem?_map, List.getD_eq_getElem?_getD, List.getElem?_eq_getElem hi']
      rfl) 9 Tryz.underlying9
    rw [strOfNums_text] at this
    exact this

/-- append of a text, as one step of a region that draws its order. -/
theorem step_append_text {P : Program} {w : World} {ops : Array Oper} {o : Oper} {a : Act} {K : Act → World → Prop} {Q : Exit → Act → World → Prop} {E : Prop} (hgd : o.guard = none) (sl x : Operand) (t u : TypeId)
    (ho : o.op = .call { callee := .builtin .append, args := #[sl, x], argTypes := #[t, u] })
    (base : Nat) (e : TypeId) (i : TypeInfo) (ht : P.underlying t = some (.slice e)) (hu : P.underlying u = some .string) (hi : P.info? e = some i) (hz : i.zero = some (.int .u8 0))
    (hsize : i.size = 1) (hby : i.bytes = 1)
    (v : Value) (n : Nat) (xs : List Value) (hs : a.eval sl = v) (hown : w.ownsRow base e 1 v n xs) (s : ByteArray) (hx : a.eval x = .string s)
    (h63 : n + s.size ≤ maxLen) (hbytes : n + s.size ≤ 140737488355328) (hbase : base ≤ w.heap.size)
    (h : ∀ v' w', w'.ownsRow base e 1 v' (n + s.size) (xs ++ Lib.strCells s) → w.grownBy w' v.ownBlock → K (a.put o.dst v') w') :
    if Region.wanted o (yielded ops a.tmps) = true then Oper.wp P o a w K Q else E := by
  have hw : Region.wanted o (yielded ops a.tmps) = true := by simp [Region.wanted, hgd]
  rw [if_pos hw]
  obtain ⟨v', w', hr, h2, h3, -⟩ := Lib.run_append_own_string (P := P) w base t u o.type e i ht hu hi hz hsize hby v n xs hown s h63 hbytes hbase
  unfold Oper.wp execOp
  simp only [ho, resolve, invoke, builtin, Sem.run_bind, Sem.run_pure, Result.andThen_ok, List.map_toArray, List.map_cons, List.map_nil, hs, hx, hr]
  exact h v' w' h2 h3
theorem info5 : (Tryz.prog.info? 5).map (fun i => (i.zero, i.size, i.bytes)) = some (some (.int .u8 0), 1, 1) := by kernel_rfl
end Go.Proofs.YtfefbgemcakabaaGreatDoor

namespace Go.Proofs.YtfefbgemcakabaaGreatDoor
open Go.RowKit

/-- A Builder of the call's own that holds this text. -/
def Bld (w : World) (B b : Nat) (s : ByteArray) : Prop := B ≤ b ∧ ∃ p v, w.heap[b]? = some (Obj.cells #[p, v] 107 (0, 0)) ∧ (p = .pointer none ∨ p = .pointer (some ⟨b, 0, none⟩)) ∧ TBuf w B v s
theorem sizeB : (Tryz.prog.info? 107).map (·.size) = some 2 := by kernel_rfl
theorem liesB : liesAt Tryz.prog Tryz.prog.depth 107 (2 / Tryz.prog.cellsOf 107) 0 107 1 = true := by kernel_rfl
theorem Bld.keeps {w w' : World} {B b lo : Nat} {l : List Nat} {s : ByteArray} (h : Bld w B b s) (hk : Keeps lo l w w') (h5 : 5 ∉ l) (h60 : 107 ∉ l) : Bld w' B b s := by
  obtain ⟨h1, p, v, hb, hp, ht⟩ := h
  exact ⟨h1, p, v, hk.cell hb h60, hp, ht.keeps hk h5⟩
theorem Bld.below {w w' : World} {B b : Nat} {s : ByteArray} (h : Bld w B b s) (hb : Below w.heap.size w w') : Bld w' B b s := h.keeps (lo := 0) (l := []) (Keeps.below hb) (by simp) (by simp)

set_option maxHeartbeats 1000000 in
set_option maxRecDepth 100000 in
theorem copyCheck_used (b : Nat) (w : World) (h0 : w.cell? ⟨b, 0, none⟩ = some (.pointer (some ⟨b, 0, none⟩))) :
    Calls Tryz.prog 81 #[.pointer (some ⟨b, 0, none⟩)] w fun e w' => e = .returned (.tuple #[]) ∧ w' = w := by
  obtain ⟨j, hj, _⟩ := Option.map_eq_some_iff.1 sizeB
  go_enter Tryz.func81, Tryz.ntmps81
  go_wp2
  rw [Lib.run_neq_ptr_same w _ Tryz.underlying105 hj]
  go_wp2
  go_end0
  exact ⟨rfl, rfl⟩
set_option maxHeartbeats 1000000 in
set_option maxRecDepth 100000 in
theorem copyCheck_fresh (b : Nat) (w : World) (h0 : w.cell? ⟨b, 0, none⟩ = some (.pointer none)) (hsh : w.shape? b = some (107, 2)) (hfz : w.frozen? ⟨b, 0, none⟩ = false) :
    Calls Tryz.prog 81 #[.pointer (some ⟨b, 0, none⟩)] w fun e w' => e = .returned (.tuple #[]) ∧ w' = w.setCell ⟨b, 0, none⟩ (.pointer (some ⟨b, 0, none⟩)) := by
  obtain ⟨j, hj, hjs⟩ := Option.map_eq_some_iff.1 sizeB
  go_enter Tryz.func81, Tryz.ntmps81
  go_wp2
  rw [Lib.run_to_unsafe w ⟨b, 0, none⟩ Tryz.underlying105 Tryz.underlying175 hj (by rw [hjs]; decide) hsh (Nat.zero_lt_succ 1)]
  simp only [Result.andThen]
  rw [Oper.upon_value]
  go_wp2
  rw [run_callFunc_extern Tryz.func105 (by kernel_rfl) (by kernel_rfl) (by kernel_rfl) (e := Extern.AbiNoEscape.same) (by kernel_rfl)]
  rw [Lib.run_noEscape]
  simp only [Result.andThen]
  rw [Oper.upon_value]
  go_wp2
  rw [Lib.run_from_unsafe w ⟨b, 0, none⟩ Tryz.underlying175 Tryz.underlying105 hj hsh liesB]
  simp only [Result.andThen]
  rw [Oper.upon_value]
  go_wp2
  go_end0
  exact ⟨rfl, rfl⟩
theorem copyCheck_is (B b : Nat) (s : ByteArray) (w : World) (h : Bld w B b s) :
    Calls Tryz.prog 81 #[.pointer (some ⟨b, 0, none⟩)] w fun e w' => e = .returned (.tuple #[]) ∧ (∃ v, w'.heap[b]? = some (Obj.cells #[.pointer (some ⟨b, 0, none⟩), v] 107 (0, 0)) ∧ TBuf w' B v s) ∧ Keeps B [5, 107] w w' := by
  obtain ⟨hB, p, v, hb, hp, ht⟩ := h
  rcases hp with rfl | rfl
  · refine (copyCheck_fresh b w (by rw [block_cell hb]; rfl) (by simp [World.shape?, hb]) (block_free hb 0)).mono ?_
    rintro e w' ⟨rfl, rfl⟩
    have hk : Keeps B [107] w (w.setCell ⟨b, 0, none⟩ (.pointer (some ⟨b, 0, none⟩))) := (Keeps.refl B [107] w).set hb (by simp) hB 0 _
    refine ⟨rfl, ⟨v, ?_, ht.keeps hk (by simp)⟩, hk.mono (Nat.le_refl _) (by simp)⟩
    have := block_set (i := 0) hb (.pointer (some ⟨b, 0, none⟩))
    simpa using this
  · refine (copyCheck_used b w (by rw [block_cell hb]; rfl)).mono ?_
    rintro e w' ⟨rfl, rfl⟩
    exact ⟨rfl, ⟨v, hb, ht⟩, Keeps.refl _ _ _⟩

theorem own_slice {w : World} {B e size n : Nat} {v : Value} {xs : List Value} (h : w.ownsRow B e size v n xs) : ∃ ao n' cap, v = .slice ao n' cap := by
  rcases h.2 with ⟨hv, _⟩ | ⟨g, cap, cur, hv, _⟩
  · exact ⟨_, _, _, hv⟩
  · exact ⟨_, _, _, hv⟩
set_option maxHeartbeats 2000000 in
set_option maxRecDepth 100000 in
theorem write_is (B b : Nat) (s t : ByteArray) (w : World) (h : Bld w B b s) (hlen : s.size + t.size ≤ 1000000000000) (hBw : B ≤ w.heap.size) :
    Calls Tryz.prog 53 #[.pointer (some ⟨b, 0, none⟩), .string t] w fun e w' => e = .returned (.tuple #[.int .i64 t.size, .nilIface]) ∧ Bld w' B b (s ++ t) ∧ Keeps B [5, 107] w w' := by
  obtain ⟨i0, hi, hz0, hz1, hz2⟩ := info_parts info5
  have hB := h.1
  go_enter Tryz.func53, Tryz.ntmps53
  go_wp2_with fail
  refine (copyCheck_is B b s _ h).mono ?_
  rintro e w1 ⟨rfl, ⟨v, hbk, hown⟩, hk1⟩
  have c0 := block_cell hbk
  have hB1 : B ≤ w1.heap.size := Nat.le_trans hBw hk1.size
  go_wp2_with (first | (at_builtin; refine Lib.wpList_append_own_string _ rfl _ _ 88 9 rfl B 5 i0 Tryz.underlying88 Tryz.underlying9 hi hz0 hz1 hz2 _ _ _ rfl hown t rfl (by unfold maxLen; omega) (by omega) hB1 ?_; intro v4 w4 hown4 hgrow4 hnil4; obtain ⟨ao, n4, cp4, rfl⟩ := own_slice hown4; have hk4 : Keeps B [5] w1 w4 := Keeps.grown hown hgrow4 (by simp); have hb4 := hk4.cell hbk (by simp); have d0 := block_cell hb4; have f0 := block_free hb4))
  have hblk := block_set (i := 1) hb4 (.slice ao n4 cp4)
  have hkk : Keeps B [107] w4 (w4.setCell ⟨b, 1, none⟩ (.slice ao n4 cp4)) := (Keeps.refl B [107] w4).set hb4 (by simp) hB 1 _
  have ht := (TBuf.add hown4).keeps hkk (by simp)
  have hkz : Keeps B [5, 107] w (w4.setCell ⟨b, 1, none⟩ (.slice ao n4 cp4)) := (hk1.trans (hk4.mono (Nat.le_refl _) (by simp))).trans (hkk.mono (Nat.le_refl _) (by simp))
  clear hown4 hgrow4 hnil4
  go_wp2
  go_ret2
  exact ⟨rfl, ⟨hB, _, _, by simpa using hblk, Or.inr rfl, ht⟩, hkz⟩
end Go.Proofs.YtfefbgemcakabaaGreatDoor

namespace Go.Proofs.YtfefbgemcakabaaGreatDoor
open Go.RowKit

theorem string_is (B b : Nat) (s : ByteArray) (w : World) (h : Bld w B b s) (hBw : B ≤ w.heap.size) : Calls Tryz.prog 55 #[.pointer (some ⟨b, 0, none⟩)] w fun e w' => e = .returned (.string s) ∧ Below B w w' := by
  obtain ⟨hB, p, v, hb, hp, ht⟩ := h
  have hown : w.ownsRow B 5 1 v (Lib.strCells s).length (Lib.strCells s) := by rw [Lib.strCells_length]; exact ht
  have hne := Lib.ownBlock_ne hown hb (by decide)
  have hat : Lib.IsBuilderF 107 5 B b (Lib.byteCells s.data.toList) w := by
    refine Lib.IsBuilderF.of ?_
    rcases hp with rfl | rfl
    · exact Or.inl ⟨hB, v, hb, hown, hne⟩
    · exact Or.inr ⟨hB, v, hb, hown, hne⟩
  refine (Tryz.Builder_String_any_k B b s.data.toList w hat hBw).mono ?_
  rintro e w' ⟨rfl, -, hbe, -⟩
  exact ⟨by simp, hbe⟩

end Go.Proofs.YtfefbgemcakabaaGreatDoor
