/-
  A map by pointers into one row, whose entries are those that were met, in order: a lookup and a new entry.
-/
import Derived.Test.YtcebgbcgkkfedaaGreatC0
import Derived.LaidEql
import Derived.Maps.OwnSet
namespace Go.Proofs.YtcebgbcgkkfedaaGreat
open Go.RowKit

def recEnt (Hb i n : Nat) : MapEntry := ⟨.pointer (some ⟨Hb, n, none⟩), .int .i64 i, i⟩
/-- The entries behind 'i' others. -/
def recEnts (Hb : Nat) : Nat → List Nat → List MapEntry
  | _, [] => []
  | i, n :: ms => recEnt Hb i n :: recEnts Hb (i + 1) ms
theorem recEnts_app (Hb : Nat) : ∀ (i : Nat) (ms : List Nat) (n : Nat), recEnts Hb i (ms ++ [n]) = recEnts Hb i ms ++ [recEnt Hb (i + ms.length) n]
  | i, [], n => by simp [recEnts]
  | i, m :: ms, n => by
    rw [List.cons_append, recEnts, recEnts_app Hb (i + 1) ms n, recEnts, List.cons_append, List.length_cons, show i + 1 + ms.length = i + (ms.length + 1) by omega]

theorem info94 : (Tryz.prog.info? 94).map (fun i => (i.zero, i.size, i.bytes)) = some (some (.agg #[.slice none 0 0]), 1, 24) := by kernel_rfl

theorem eq_ptr (Hb n m : Nat) (w : World) : (Op.equal 140 (.pointer (some ⟨Hb, n, none⟩)) (.pointer (some ⟨Hb, m, none⟩))).run Tryz.prog w = .ok (decide (n = m)) w := by
  obtain ⟨i0, hi, hz0, hz1, hz2⟩ := info_parts info94
  have h : ∀ d : Nat, (Op.equalIn (d + 1) 140 (.pointer (some ⟨Hb, n, none⟩)) (.pointer (some ⟨Hb, m, none⟩))).run Tryz.prog w = .ok (decide (n = m)) w := fun d => by
    simp [Op.equalIn, run_underlying Tryz.underlying140, sizeOf, typeInfo, hi, hz1, sameAddr]
    rw [Bool.eq_iff_iff]
    simp
  exact h 9999

theorem find_ptr (Hb n : Nat) (w : World) : ∀ (ms : List Nat) (i j : Nat), (Instr.findAsking 140 (.pointer (some ⟨Hb, n, none⟩)) (recEnts Hb i ms) j).run Tryz.prog w = .ok (if n ∈ ms then some (j + idx ms n, .int .i64 ((i + idx ms n : Nat) : Int)) else none) w
  | [], i, j => by simp [recEnts, Instr.findAsking]
  | m :: ms, i, j => by
    simp only [recEnts, Instr.findAsking, recEnt]
    by_cases h : n = m
    · subst h
      simp [eq_ptr, idx]
    · have ih := find_ptr Hb n w ms (i + 1) (j + 1)
      simp only [Sem.run_bind, eq_ptr, h, decide_false]
      simp [ih, idx, h, show ¬ m = n from fun e => h e.symm]
      split
      · simp; omega
      · rfl

theorem findKey_ptr (Hb n : Nat) (w : World) (ms : List Nat) : (Instr.findKey 140 (.pointer (some ⟨Hb, n, none⟩)) (recEnts Hb 0 ms)).run Tryz.prog w = .ok (if n ∈ ms then some (idx ms n, .int .i64 ((idx ms n : Nat) : Int)) else none) w := by
  have hf := find_ptr Hb n w ms 0 0
  cases ms with
  | nil => simp [Instr.findKey, run_underlying Tryz.underlying140, recEnts, Instr.findNow]
  | cons m ms =>
    have hn : Instr.findNow (.pointer 94) (.pointer (some ⟨Hb, n, none⟩)) (recEnts Hb 0 (m :: ms)) 0 = none := rfl
    simp [Instr.findKey, run_underlying Tryz.underlying140, hn, hf]

theorem check_ptr (em : Bool) (a : Option Addr) (w : World) : (Instr.checkKey em 10000 140 (.pointer a)).run Tryz.prog w = .ok () w := by
  have h : ∀ d : Nat, (Instr.checkKey em (d + 1) 140 (.pointer a)).run Tryz.prog w = .ok () w := fun d => by
    unfold Instr.checkKey
    simp [run_underlying Tryz.underlying140]
  exact h 9999

theorem look_ptr (Hb n b : Nat) (ms : List Nat) (c : Nat) (w : World) (hm : w.heap[b]? = some (.map (recEnts Hb 0 ms).toArray c)) :
    (Instr.lookup 108 (.map (some b)) (.pointer (some ⟨Hb, n, none⟩)) true).run Tryz.prog w = .ok (.tuple #[.int .i64 (if n ∈ ms then ((idx ms n : Nat) : Int) else 0), .bool (decide (n ∈ ms))]) w := by
  by_cases h : n ∈ ms
  · simp [Instr.lookup, run_underlying Tryz.underlying108, MapKept.run_getObj_map hm, check_ptr, findKey_ptr, h]
  · simp [Instr.lookup, run_underlying Tryz.underlying108, MapKept.run_getObj_map hm, check_ptr, findKey_ptr, h]

theorem put_ptr (Hb n b : Nat) (ms : List Nat) (w : World) (hn : n ∉ ms) (hm : w.heap[b]? = some (.map (recEnts Hb 0 ms).toArray ms.length)) :
    (Instr.mapUpdate 108 (.map (some b)) (.pointer (some ⟨Hb, n, none⟩)) (.int .i64 ms.length)).run Tryz.prog w = .ok () (ChangeMaps.setBlock w b (.map (recEnts Hb 0 (ms ++ [n])).toArray (ms ++ [n]).length)) := by
  simp [Instr.mapUpdate, run_underlying Tryz.underlying108, MapKept.run_getObj_map hm, check_ptr, findKey_ptr, hn, MapKept.run_setObj_map _ hm, ChangeMaps.setBlock, recEnts_app, recEnt]
end Go.Proofs.YtcebgbcgkkfedaaGreat
