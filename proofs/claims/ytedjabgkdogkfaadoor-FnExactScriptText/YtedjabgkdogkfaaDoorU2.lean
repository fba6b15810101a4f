/-
  A row of bytes that holds a text: text appended, turned into a string.
-/
import Derived.Test.YtedjabgkdogkfaaDoorT2
import Derived.Test.YtedjabgkdogkfaaDoorMem3
import Derived.Lib.AppendStr
import Derived.Deep.RegionLaw
namespace Go.Proofs.YtedjabgkdogkfaaDoor
open Go.RowKit

/-- A byte slice of the call's own that holds this text. -/
def TBuf (w : World) (B : Nat) (v : Value) (s : ByteArray) : Prop := w.ownsRow B 5 1 v s.size (Lib.strCells s)
theorem strCells_append (a b : ByteArray) : Lib.strCells (a ++ b) = Lib.strCells a ++ Lib.strCells b := by simp [Lib.strCells]
theorem TBuf.add {w : World} {B : Nat} {v : Value} {s t : ByteArray} (h : w.ownsRow B 5 1 v (s.size + t.size) (Lib.strCells s ++ Lib.strCells t)) : TBuf w B v (s ++ t) := by
  unfold TBuf
  rw [strCells_append, ByteArray.size_append]
  exact h
theorem TBuf.keeps {w w' : World} {B lo : Nat} {l : List Nat} {v : Value} {s : ByteArray} (h : TBuf w B v s) (hk : Keeps lo l w w') (h5 : 5 ∉ l) : TBuf w' B v s := by
  refine ⟨h.1, ?_⟩
  rcases h.2 with hn | ⟨g, cap, cur, hv, hb, hg, r⟩
  · exact .inl hn
  · exact .inr ⟨g, cap, cur, hv, hb, hk.cell hg h5, r⟩
theorem TBuf.below {w w' : World} {B : Nat} {v : Value} {s : ByteArray} (h : TBuf w B v s) (hb : Below w.heap.size w w') : TBuf w' B v s := h.keeps (lo := 0) (l := []) (Keeps.below hb) (by simp)
theorem strOfNums_text (s : ByteArray) : strOfNums (s.data.toList.map fun b => (b.toNat : Int)) = s := by
  unfold strOfNums
  apply ByteArray.ext
  simp [Function.comp_def]
theorem TBuf.text {w : World} {B : Nat} {v : Value} {s : ByteArray} (h : TBuf w B v s) : (convert 33 9 v).run Tryd.prog w = .ok (.string s) w := by
  rcases h.2 with ⟨rfl, hn⟩ | ⟨g, cap, cur, rfl, hb, hh, hnc, -, hs, htake⟩
  · have hs0 : s = ⟨#[]⟩ := by
      apply ByteArray.ext
      exact Array.eq_empty_of_size_eq_zero hn
    subst hs0
    rw [run_convert_bytes_string w 33 9 5 none 0 0 Tryd.underlying33 Tryd.underlying5 Tryd.underlying9]
    rfl
  · have := run_convert_bytes_arg (P := Tryd.prog) w 33 5 Tryd.underlying33 Tryd.underlying5 g 0 s.size cap (s.data.toList.map fun b => (b.toNat : Int)) (by simp) (fun i hi => by
      rw [block_cell hh, Nat.zero_add]
      have h1 : (cur.toList.take (s.size * 1))[i]? = (Lib.strCells s)[i]? := by rw [htake]
      rw [List.getElem?_take_of_lt (by omega), Array.getElem?_toList] at h1
      rw [h1]
      have hi' : i < s.data.toList.length := by simpa using hi
      simp only [Lib.strCells, List.getElem?_map, List.getD_eq_getElem?_getD, List.getElem?_eq_getElem hi']
      rfl) 9 Tryd.underlying9
    rw [strOfNums_text] at this
    exact this

/-- append of a text, as one step of a region that draws its order. -/
theorem step_append_text {P : Program} {w : World} {ops : Array Oper} {o : Oper} {a : Act} {K : Act → World → Prop} {Q : Exit → Act → World → Prop} {E : Prop} (hgd : o.guard = none) (sl x : Operand) (t u : TypeId)
    (ho : o.op = .call { callee := .builtin .append, args := #[sl, x], argTypes := #[t, u] })
    (base : Nat) (e : TypeId) (i : TypeInfo) (ht : P.underlying t = some (.slice e)) (hu : P.underlying u = some .string) (hi : P.info? e = some i) (hz : i.zero = some (.int .u8 0))
    (hsize : i.size = 1) (hby : i.bytes = 1)
    (v : Value) (n : Nat) (xs : List Value) (hs : a.eval sl = v) (hown : w.ownsRow base e 1 v n xs) (s : ByteArray) (hx : a.eval x = .string s)
    (h63 : n + s.size ≤ maxLen) (hbytes : n + s.size ≤ 140737488355328) (hbase : base ≤ w.heap.size)
    (h : ∀ v' w', w'.ownsRow base e 1 v' (n + s.size) (xs ++ Lib.strCells s) → w.grownBy w' v.ownBlock → K (a.put o.dst v') w') :
    if Region.wanted o (yielded ops a.tmps) = true then Oper.wp P o a w K Q else E := by
  have hw : Region.wanted o (yielded ops a.tmps) = true := by simp [Region.wanted, hgd]
  rw [if_pos hw]
  obtain ⟨v', w', hr, h2, h3, -⟩ := Lib.run_append_own_string (P := P) w base t u o.type e i ht hu hi hz hsize hby v n xs hown s h63 hbytes hbase
  unfold Oper.wp execOp
  simp only [ho, resolve, invoke, builtin, Sem.run_bind, Sem.run_pure, Result.andThen_ok, List.map_toArray, List.map_cons, List.map_nil, hs, hx, hr]
  exact h v' w' h2 h3
theorem info5 : (Tryd.prog.info? 5).map (fun i => (i.zero, i.size, i.bytes)) = some (some (.int .u8 0), 1, 1) := by kernel_rfl
end Go.Proofs.YtedjabgkdogkfaaDoor
