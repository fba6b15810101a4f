/-
  A text cut at each of a byte, on plain data.
  What the document's l02Cut gives: the pieces of a text, in a row of the call's own.
-/
import Derived.Test.YtpmkfdinkomaiaaGreatDoorGQ3
import Derived.Test.YtpmkfdinkomaiaaGreatDoorMem3
import Derived.Test.YtpmkfdinkomaiaaGreatDoorGQ5
import Derived.Deep.AppendLies
namespace Go.Proofs.YtpmkfdinkomaiaaGreatDoor
open Go.RowKit

/-- Bytes put ahead of the first piece. -/
def glue (p : List UInt8) : List (List UInt8) → List (List UInt8)
  | [] => [p]
  | h :: t => (p ++ h) :: t
/-- The pieces between the bytes that are 'y'; there is always one. -/
def cuts (y : UInt8) : List UInt8 → List (List UInt8)
  | [] => [[]]
  | c :: l => if c = y then [] :: cuts y l else glue [c] (cuts y l)

theorem glue_glue (p q : List UInt8) (L : List (List UInt8)) : glue p (glue q L) = glue (p ++ q) L := by cases L <;> simp [glue]
theorem cuts_ne (y : UInt8) (l : List UInt8) : cuts y l ≠ [] := by
  cases l with
  | nil => simp [cuts]
  | cons c l =>
    rw [cuts]
    split
    · simp
    · cases cuts y l <;> simp [glue]
theorem glue_nil {L : List (List UInt8)} (h : L ≠ []) : glue [] L = L := by cases L <;> simp_all [glue]
theorem cuts_hit {y : UInt8} {p l : List UInt8} : glue p (cuts y (y :: l)) = p :: glue [] (cuts y l) := by
  rw [cuts, if_pos rfl, glue_nil (cuts_ne y l)]
  simp [glue]
theorem cuts_miss {y c : UInt8} {p l : List UInt8} (h : c ≠ y) : glue p (cuts y (c :: l)) = glue (p ++ [c]) (cuts y l) := by rw [cuts, if_neg h, glue_glue]
theorem cuts_end {y : UInt8} {p : List UInt8} : glue p (cuts y []) = [p] := by simp [cuts, glue]

/-- A run of bytes without 'y' in it, then 'y', then the rest. -/
theorem cuts_app (y : UInt8) : ∀ (p l : List UInt8), y ∉ p → cuts y (p ++ y :: l) = p :: cuts y l := by
  intro p
  induction p with
  | nil => intro l _; simp [cuts]
  | cons c p ih =>
    intro l h
    rw [List.cons_append, cuts, if_neg (by intro e; subst e; simp at h), ih l (by intro hm; exact h (List.mem_cons_of_mem _ hm))]
    simp [glue]
theorem cuts_none (y : UInt8) : ∀ (p : List UInt8), y ∉ p → cuts y p = [p] := by
  intro p
  induction p with
  | nil => intro _; rfl
  | cons c p ih =>
    intro h
    rw [cuts, if_neg (by intro e; subst e; simp at h), ih (by intro hm; exact h (List.mem_cons_of_mem _ hm))]
    simp [glue]
theorem cuts_len (y : UInt8) : ∀ (l : List UInt8), (cuts y l).length ≤ l.length + 1 := by
  intro l
  induction l with
  | nil => simp [cuts]
  | cons c l ih =>
    rw [cuts]
    split
    · simp; omega
    · have : (glue [c] (cuts y l)).length = (cuts y l).length := by
        have := cuts_ne y l
        cases hc : cuts y l <;> simp_all [glue]
      rw [this]
      simp
      omega

/-- The same of a text. -/
def cutsB (y : UInt8) (s : ByteArray) : List ByteArray := (cuts y s.data.toList).map fun l => ⟨l.toArray⟩
theorem cutsB_len (y : UInt8) (s : ByteArray) : (cutsB y s).length ≤ s.size + 1 := by
  have := cuts_len y s.data.toList
  rw [Array.length_toList] at this
  simp only [cutsB, List.length_map]
  exact this
end Go.Proofs.YtpmkfdinkomaiaaGreatDoor

namespace Go.Proofs.YtpmkfdinkomaiaaGreatDoor
open Go.RowKit

theorem info9c : (Tryz.prog.info? 9).map (fun i => (i.zero, i.size, i.bytes)) = some (some (.string ByteArray.empty), 1, 16) := by kernel_rfl

def pcs (L : List (List UInt8)) : List ByteArray := L.map fun l => ⟨l.toArray⟩
/-- The pieces that are cut, the one that is begun, and what is ahead. -/
def CutSt (y : UInt8) (s : ByteArray) (dn : List ByteArray) (at' i : Nat) : Prop := at' ≤ i ∧ i ≤ s.size ∧ cutsB y s = dn ++ pcs (glue ((s.data.toList.drop at').take (i - at')) (cuts y (s.data.toList.drop i)))

theorem CutSt.start (y : UInt8) (s : ByteArray) : CutSt y s [] 0 0 := by
  refine ⟨Nat.le_refl _, Nat.zero_le _, ?_⟩
  simp [cutsB, pcs, glue_nil (cuts_ne _ _)]

theorem extract_toList (s : ByteArray) (a b : Nat) : (⟨((s.data.toList.drop a).take (b - a)).toArray⟩ : ByteArray) = s.extract a b := by
  apply ByteArray.ext
  rw [ByteArray.data_extract]
  apply Array.ext'
  simp [List.extract_eq_take_drop]
theorem drop_text {s : ByteArray} {k : Nat} (h : k < s.size) : s.data.toList.drop k = s[k] :: s.data.toList.drop (k + 1) := by
  have h' : k < s.data.toList.length := by rw [Array.length_toList]; exact h
  exact List.drop_eq_getElem_cons h'
theorem CutSt.hit {y : UInt8} {s : ByteArray} {dn : List ByteArray} {p k : Nat} (h : CutSt y s dn p k) (hk : k < s.size) (hy : s[k] = y) : CutSt y s (dn ++ [s.extract p k]) (k + 1) (k + 1) := by
  obtain ⟨h1, h2, h3⟩ := h
  refine ⟨Nat.le_refl _, hk, ?_⟩
  rw [h3, drop_text hk, hy, cuts_hit]
  simp [pcs, extract_toList]
theorem CutSt.miss {y : UInt8} {s : ByteArray} {dn : List ByteArray} {p k : Nat} (h : CutSt y s dn p k) (hk : k < s.size) (hy : s[k] ≠ y) : CutSt y s dn p (k + 1) := by
  obtain ⟨h1, h2, h3⟩ := h
  refine ⟨by omega, hk, ?_⟩
  rw [h3, drop_text hk, cuts_miss hy]
  have e : (s.data.toList.drop p).take (k - p) ++ [s[k]] = (s.data.toList.drop p).take (k + 1 - p) := by
    have h' : k < s.data.toList.length := by rw [Array.length_toList]; exact hk
    have hl : k - p < (s.data.toList.drop p).length := by rw [List.length_drop]; omega
    rw [show k + 1 - p = (k - p) + 1 by omega, List.take_succ_eq_append_getElem hl]
    congr 2
    rw [List.getElem_drop]
    simp only [show p + (k - p) = k by omega]
    rfl
  rw [e]
theorem CutSt.last {y : UInt8} {s : ByteArray} {dn : List ByteArray} {p : Nat} (h : CutSt y s dn p s.size) : cutsB y s = dn ++ [s.extract p s.size] := by
  obtain ⟨h1, h2, h3⟩ := h
  have e : s.data.toList.drop s.size = [] := List.drop_of_length_le (by rw [Array.length_toList]; exact Nat.le_refl _)
  rw [h3, e, cuts_end]
  simp [pcs, extract_toList]

set_option maxRecDepth 100000 in
set_option maxHeartbeats 4000000 in
theorem sCut_any (s : ByteArray) (y : UInt8) (w : World) (hs : s.size ≤ 1048576) :
    Calls Tryz.prog 31 #[.string s, .int .u8 y.toNat] w fun e w' => ∃ (a : Option Addr) (c : Nat), e = .returned (.slice a (cutsB y s).length c) ∧ w'.ownsRow w.heap.size 9 1 (.slice a (cutsB y s).length c) (cutsB y s).length ((cutsB y s).map .string) ∧ Below w.heap.size w w' := by
  obtain ⟨i0, hi, hz0, hz1, hz2⟩ := info_parts info9c
  have hE1 : (w.alloc (.cells #[] 9)).ownsRow w.heap.size 9 1 (.slice (some ⟨w.heap.size, 0, none⟩) 0 0) 0 [] := World.ownsRow_made (base := w.heap.size) (e := 9) (size := 1) w #[] 0 (Nat.le_refl _) (by unfold maxLen; omega) rfl
  have hb0 : Below w.heap.size w (w.alloc (.cells #[] 9)) := (Below.refl _ _).alloc (Nat.le_refl _) _
  go_enter Tryz.func31, Tryz.ntmps31
  go_wp2_with fail
  go_loopw [5, 6, 7] (fun o av i wr => ∃ (k at' : Nat) (dn : List ByteArray) (a : Option Addr) (c : Nat), i = .int .i64 k ∧ av = .int .i64 at' ∧ o = .slice a dn.length c ∧ dn.length ≤ k ∧ Hid (CutSt y s dn at' k) ∧ wr.ownsRow w.heap.size 9 1 (.slice a dn.length c) dn.length (dn.map .string) ∧ Below w.heap.size w wr) (fun _ _ i _ => s.size - (intOf i).toNat)
  case atStart => exact ⟨0, 0, [], some ⟨w.heap.size, 0, none⟩, 0, rfl, rfl, rfl, Nat.le_refl _, CutSt.start y s, hE1, hb0⟩
  case round =>
    obtain ⟨k, at', dn, a, c, rfl, rfl, rfl, hdk, HC, hown, hbr⟩ := hrel
    have h1 : at' ≤ k := HC.out.1
    have h2 : k ≤ s.size := HC.out.2.1
    by_cases hlt : k < s.size
    · by_cases hy : s[k] = y
      · have hyb : ((s[k].toNat : Int) == (y.toNat : Int)) = true := by simp [hy]
        have HC' : Hid (CutSt y s (dn ++ [s.extract at' k]) (k + 1) (k + 1)) := HC.out.hit hlt hy
        clear hy
        have hzr := hbr.size
        generalize hx : s.extract at' k = x at HC'
        go_wp2_with (first | (at_builtin; refine wpList_append_lies _ rfl _ _ 24 rfl w.heap.size 9 i0 (.string ByteArray.empty) 1 16 Tryz.underlying24 hi hz0 hz1 hz2 rfl (by decide) _ _ _ rfl (World.ownsRow.alloc hown _) ⟨wr.heap.size, 0, none⟩ 1 1 [.string x] rfl rfl (cell_one_new _ _ _) (by intro u hu; simp at hu; subst hu; rfl) (by decide) (by unfold maxLen; omega) (by omega) (by simp; omega) _ rfl ?_; intro g cp w4 hown4 hgrow4 hat4 hlt4))
        have hown5 : w4.ownsRow w.heap.size 9 1 (.slice (some ⟨g, 0, none⟩) (dn ++ [x]).length cp) (dn ++ [x]).length ((dn ++ [x]).map .string) := by simpa using hown4
        have hb5 : Below w.heap.size w w4 := (hbr.alloc hzr _).trans ((Keeps.grown (ts := [9]) (World.ownsRow.alloc hown _) hgrow4 (by simp)).toBelow (by simp; omega))
        clear hown4 hgrow4 hat4
        go_roundw
        case rel => exact ⟨k + 1, k + 1, dn ++ [x], some ⟨g, 0, none⟩, cp, by go_num, by go_num, by simp, by simp; omega, HC', hown5, hb5⟩
        case measure => simp [intOf]; omega
      · have hyb : ((s[k].toNat : Int) == (y.toNat : Int)) = false := by
          simp only [beq_eq_false_iff_ne, ne_eq]
          intro e
          exact hy (UInt8.toNat_inj.1 (by omega))
        go_wp2
        go_roundw
        case rel => exact ⟨k + 1, at', dn, a, c, by go_num, rfl, rfl, by omega, HC.out.miss hlt hy, hown, hbr⟩
        case measure => simp [intOf]; omega
    · obtain rfl : k = s.size := by omega
      have hlast : Hid (cutsB y s = dn ++ [s.extract at' s.size]) := HC.out.last
      clear HC
      have hzr := hbr.size
      generalize hx : s.extract at' s.size = x at hlast
      go_wp2_with (first | (at_builtin; refine wpList_append_lies _ rfl _ _ 24 rfl w.heap.size 9 i0 (.string ByteArray.empty) 1 16 Tryz.underlying24 hi hz0 hz1 hz2 rfl (by decide) _ _ _ rfl (World.ownsRow.alloc hown _) ⟨wr.heap.size, 0, none⟩ 1 1 [.string x] rfl rfl (cell_one_new _ _ _) (by intro u hu; simp at hu; subst hu; rfl) (by decide) (by unfold maxLen; omega) (by omega) (by simp; omega) _ rfl ?_; intro g cp w4 hown4 hgrow4 hat4 hlt4))
      have hown5 : w4.ownsRow w.heap.size 9 1 (.slice (some ⟨g, 0, none⟩) (dn ++ [x]).length cp) (dn ++ [x]).length ((dn ++ [x]).map .string) := by simpa using hown4
      have hb5 : Below w.heap.size w w4 := (hbr.alloc hzr _).trans ((Keeps.grown (ts := [9]) (World.ownsRow.alloc hown _) hgrow4 (by simp)).toBelow (by simp; omega))
      clear hown4 hgrow4 hat4
      go_ret
      rw [hlast.out]
      exact ⟨some ⟨g, 0, none⟩, cp, by simp, hown5, hb5⟩
end Go.Proofs.YtpmkfdinkomaiaaGreatDoor
