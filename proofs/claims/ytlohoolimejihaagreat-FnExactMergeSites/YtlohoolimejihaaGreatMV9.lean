/-
  Places in order: how they compare, that a compare only makes new memory; rows of places, sorted by the library.
  Rows of places, sorted by the library's SortFunc.
-/
import Derived.Test.YtlohoolimejihaaGreatMV8
import Derived.Sort.Grow
import Derived.Deep.RegionHeld3
import Derived.Shelf.RegionOpen
import Derived.Lib.SliceRun
namespace Go.Proofs.YtlohoolimejihaaGreat
open Go.RowKit Go.Sort

/-- Only new memory, and draws. -/
structure Grw (w w' : World) : Prop where
  below : Below w.heap.size w w'
  drawn : w.drawn ≤ w'.drawn
theorem Grw.refl (w : World) : Grw w w := ⟨Below.refl _ _, Nat.le_refl _⟩
theorem Grw.trans {a b c : World} (h : Grw a b) (k : Grw b c) : Grw a c := ⟨h.below.trans (k.below.mono h.below.size), Nat.le_trans h.drawn k.drawn⟩
theorem Grw.alloc {a w : World} (h : Grw a w) (o : Obj) : Grw a (w.alloc o) := ⟨h.below.alloc h.below.size _, h.drawn⟩
theorem Grw.drew {a w : World} (h : Grw a w) : Grw a w.drew := ⟨h.below.drew, Nat.le_trans h.drawn (Nat.le_succ _)⟩
theorem Grw.form {w w' : World} (h : Grw w w') : ∃ q os, w' = grow (w.drewN q) os := by
  refine ⟨w'.drawn - w.drawn, w'.heap.extract w.heap.size w'.heap.size, ?_⟩
  have hh : w'.heap = w.heap ++ w'.heap.extract w.heap.size w'.heap.size := by
    apply Array.ext_getElem?
    intro k
    by_cases hk : k < w.heap.size
    · rw [Array.getElem?_append_left hk]
      exact h.below.block k hk
    · rw [Array.getElem?_append_right (by omega), Array.getElem?_extract]
      by_cases h2 : k < w'.heap.size
      · rw [if_pos (by omega), show w.heap.size + (k - w.heap.size) = k by omega]
      · rw [if_neg (by omega), Array.getElem?_eq_none (by omega)]
  have h1 := h.below.os
  have h2 := h.below.tape
  have h3 := h.below.output
  have h4 := h.drawn
  obtain ⟨e1, e2, e3, e4, e5⟩ := w'
  simp only at h1 h2 h3 h4 hh
  subst h1 h2 h3
  simp only [grow, World.drewN]
  congr 1
  omega

set_option maxHeartbeats 1000000 in
theorem or2_g (x0 x1 : Int) (g cap : Nat) (w : World) (h0 : w.cell? ⟨g, 0, none⟩ = some (.int .i64 x0)) (h1 : w.cell? ⟨g, 1, none⟩ = some (.int .i64 x1)) :
    Calls Tryz.prog 114 #[.slice (some ⟨g, 0, none⟩) 2 cap] w fun e w' => e = .returned (.int .i64 (orI x0 x1)) ∧ Grw w w' := by
  unfold orI
  go_enter Tryz.func114, Tryz.ntmps114
  go_wp2
  go_loopw [8] (fun i wr => ∃ (k : Nat), k ≤ 2 ∧ i = .int .i64 k ∧ Hid (0 < k → x0 = 0) ∧ Hid (1 < k → x1 = 0) ∧ Hid (Grw w wr)) (fun i _ => 2 - (intOf i).toNat)
  case atStart => exact ⟨0, by omega, rfl, fun h => absurd h (by omega), fun h => absurd h (by omega), Grw.refl _⟩
  case round =>
    obtain ⟨k, hk, rfl, z0, z1, hb⟩ := hrel
    have c0 := cell_later hb.out.below h0
    have c1 := cell_later hb.out.below h1
    clear h0 h1
    obtain rfl | rfl | rfl : k = 0 ∨ k = 1 ∨ k = 2 := by omega
    · by_cases h : x0 = 0
      · subst h
        go_wp2
        go_roundw
        case rel => exact ⟨1, by omega, rfl, (by show _ → _; simp), fun h => absurd h (by omega), hb⟩
        case measure => simp [intOf]
      · go_wp2
        go_ret
        exact ⟨rfl, hb.out⟩
    · obtain rfl := z0.out (by omega)
      by_cases h : x1 = 0
      · subst h
        go_wp2
        go_roundw
        case rel => exact ⟨2, by omega, rfl, (by show _ → _; simp), (by show _ → _; simp), hb⟩
        case measure => simp [intOf]
      · go_wp2
        go_ret
        exact ⟨rfl, hb.out⟩
    · obtain rfl := z0.out (by omega)
      obtain rfl := z1.out (by omega)
      go_wp2
      go_ret
      exact ⟨rfl, hb.out⟩

set_option maxRecDepth 100000 in
set_option maxHeartbeats 1000000 in
theorem comparePlaces_g (af ap bf bp : Int) (w : World) :
    Calls Tryz.prog 79 #[.agg #[.int .i64 af, .int .i64 ap], .agg #[.int .i64 bf, .int .i64 bp]] w fun e w' => e = .returned (.int .i64 (orI (cmpI af bf) (cmpI ap bp))) ∧ Grw w w' := by
  obtain ⟨wA, hwA⟩ : ∃ wA, wA = (w.alloc (.cells #[.int .i64 af, .int .i64 ap] 134)).alloc (.cells #[.int .i64 bf, .int .i64 bp] 134) := ⟨_, rfl⟩
  have hbA : Grw w wA := by rw [hwA]; exact ((Grw.refl _).alloc _).alloc _
  have hX : wA.heap[w.heap.size]? = some (.cells #[.int .i64 af, .int .i64 ap] 134 (0, 0)) := by rw [hwA]; exact block_old (block_new _ _ _) _
  have hY : wA.heap[w.heap.size + 1]? = some (.cells #[.int .i64 bf, .int .i64 bp] 134 (0, 0)) := by rw [hwA]; simpa using block_new (w.alloc (.cells #[.int .i64 af, .int .i64 ap] 134)) #[.int .i64 bf, .int .i64 bp] 134
  have HS : Hid (∀ w', Grw wA w' → w'.cell? ⟨w.heap.size, 0, none⟩ = some (.int .i64 af) ∧ w'.cell? ⟨w.heap.size, 1, none⟩ = some (.int .i64 ap) ∧ w'.cell? ⟨w.heap.size + 1, 0, none⟩ = some (.int .i64 bf) ∧ w'.cell? ⟨w.heap.size + 1, 1, none⟩ = some (.int .i64 bp)) := fun w' q =>
    ⟨by rw [block_cell (block_kept hX q.below)]; rfl, by rw [block_cell (block_kept hX q.below)]; rfl, by rw [block_cell (block_kept hY q.below)]; rfl, by rw [block_cell (block_kept hY q.below)]; rfl⟩
  have q : Grw wA wA.drew := (Grw.refl _).drew
  have HB : Hid (Grw w wA) := hbA
  clear hX hY hbA
  go_enter Tryz.func79, Tryz.ntmps79
  go_wp2
  rw [← hwA]
  clear hwA
  go_region_held3 (fun w' => w'.cell? ⟨w.heap.size, 0, none⟩ = some (.int .i64 af) ∧ w'.cell? ⟨w.heap.size, 1, none⟩ = some (.int .i64 ap) ∧ w'.cell? ⟨w.heap.size + 1, 0, none⟩ = some (.int .i64 bf) ∧ w'.cell? ⟨w.heap.size + 1, 1, none⟩ = some (.int .i64 bp))
    ((refine HS.out _ ?_; first | exact q | exact Grw.refl _ | exact ((Grw.refl _).alloc _).drew))
    (first
      | (go_at_call 115; refine (compare_any _ _ _).mono ?_; rintro e wb ⟨rfl, rfl⟩)
      | (go_at_call 114; refine (or2_g (cmpI af bf) (cmpI ap bp) _ _ _ (by exact (cell_new wA #[.int .i64 (cmpI af bf), .int .i64 (cmpI ap bp)] 3 0).trans rfl) (by exact (cell_new wA #[.int .i64 (cmpI af bf), .int .i64 (cmpI ap bp)] 3 1).trans rfl)).mono ?_; rintro e w3 ⟨rfl, kd⟩; have q := (((Grw.refl wA).alloc (.cells #[.int .i64 (cmpI af bf), .int .i64 (cmpI ap bp)] 3)).drew).trans kd))
  go_wp2
  go_ret
  exact ⟨rfl, HB.out.trans q⟩

end Go.Proofs.YtlohoolimejihaaGreat

namespace Go.Proofs.YtlohoolimejihaaGreat
open Go.RowKit Go.Sort Go.Lib

instance : Inhabited (Int × Int) := ⟨(0, 0)⟩
def PLt (a b : Int × Int) : Prop := a.1 < b.1 ∨ (a.1 = b.1 ∧ a.2 < b.2)
instance (a b : Int × Int) : Decidable (PLt a b) := by unfold PLt; infer_instance
def cmpP (a b : Int × Int) : Int := orI (cmpI a.1 b.1) (cmpI a.2 b.2)
theorem cmpI_neg (x y : Int) (h : x < y) : cmpI x y = -1 := by unfold cmpI; rw [if_pos h]
theorem cmpI_pos (x y : Int) (h : y < x) : cmpI x y = 1 := by unfold cmpI; rw [if_neg (by omega), if_pos h]
theorem cmpI_eq (x y : Int) (h : x = y) : cmpI x y = 0 := by unfold cmpI; rw [if_neg (by omega), if_neg (by omega)]
theorem cmpP_lt (a b : Int × Int) : cmpP a b < 0 ↔ PLt a b := by
  unfold cmpP orI PLt
  rcases Int.lt_trichotomy a.1 b.1 with h1 | h1 | h1
  · rw [cmpI_neg _ _ h1]; simp; omega
  · rw [cmpI_eq _ _ h1]
    rcases Int.lt_trichotomy a.2 b.2 with h2 | h2 | h2
    · rw [cmpI_neg _ _ h2]; simp; omega
    · rw [cmpI_eq _ _ h2]; simp; omega
    · rw [cmpI_pos _ _ h2]; simp; omega
  · rw [cmpI_pos _ _ h1]; simp; omega
theorem ltP (a b : Int × Int) : ltOf cmpP a b = decide (PLt a b) := by
  unfold ltOf
  exact decide_eq_decide.2 (cmpP_lt a b)
theorem swoP : SWO (ltOf cmpP) where
  irrefl x := by rw [ltP]; simp [PLt]
  trans x y z h1 h2 := by
    rw [ltP] at *
    have h1 := of_decide_eq_true h1
    have h2 := of_decide_eq_true h2
    apply decide_eq_true
    unfold PLt at *
    omega
  ntrans x y z h1 h2 := by
    rw [ltP] at *
    have h1 := of_decide_eq_false h1
    have h2 := of_decide_eq_false h2
    apply decide_eq_false
    unfold PLt at *
    omega
def encPl (x : Int × Int) : List Value := [.int .i64 x.1, .int .i64 x.2]
theorem cmpLaysP (blk off size : Nat) (w : World) : CmpLays Tryz.prog 79 #[] encPl 2 cmpP blk off size w := fun _ _ _ _ x y => (comparePlaces_g x.1 x.2 y.1 y.2 _).mono fun _ _ q => ⟨q.1, q.2.form⟩
/-- A row of places. -/
def Sp (w : World) (g cap : Nat) (d : Array (Int × Int)) : Prop := ∃ cur : Array Value, w.heap[g]? = some (Obj.cells cur 134 (0, 0)) ∧ cur.size = cap * 2 ∧ d.size ≤ cap ∧ ∀ j, j < d.size → cur[j * 2]? = some (.int .i64 d[j]!.1) ∧ cur[j * 2 + 1]? = some (.int .i64 d[j]!.2)
theorem Sp.lt {w : World} {g cap : Nat} {d : Array (Int × Int)} (h : Sp w g cap d) : g < w.heap.size := by
  obtain ⟨c, h1, -⟩ := h
  exact lt_sizez h1
theorem flatp_at (d : Array (Int × Int)) (t : Nat) (ht : t < d.size * 2) : (flatK encPl 2 d)[t]! = (encPl d[t / 2]!)[t % 2]! := get_flatK encPl 2 d t ht
theorem Sp.cells {w : World} {g cap : Nat} {d : Array (Int × Int)} (h : Sp w g cap d) (t : Nat) (ht : t < d.size * 2) : w.cell? ⟨g, t, none⟩ = some ((flatK encPl 2 d)[t]!) := by
  obtain ⟨cur, h1, -, -, h4⟩ := h
  rw [block_cell h1, flatp_at d t ht]
  obtain ⟨q0, q1⟩ := h4 (t / 2) (by omega)
  obtain h | h : t % 2 = 0 ∨ t % 2 = 1 := by omega
  · rw [h, show t = t / 2 * 2 by omega, q0]
    rw [show t / 2 * 2 / 2 = t / 2 by omega]; rfl
  · rw [h, show t = t / 2 * 2 + 1 by omega, q1]
    rw [show (t / 2 * 2 + 1) / 2 = t / 2 by omega]; rfl
theorem Sp.holds {w : World} {g cap : Nat} {d : Array (Int × Int)} (h : Sp w g cap d) : HoldsK encPl 2 w g 0 d := by
  intro t ht
  have ht' : t < d.size * 2 := by simpa using ht
  rw [Nat.zero_add]
  refine ⟨h.cells t ht', ?_⟩
  obtain ⟨cur, h1, -⟩ := h
  exact block_free h1 t
theorem heap_sorted {α : Type} [Inhabited α] (enc : α → Value) {w : World} {g n : Nat} {os : Array Obj} {cur : Array Value} {e : TypeId} {fr : Nat × Nat} (d : Array α) (hb : w.heap[g]? = some (.cells cur e fr)) :
    (grow (putRow enc (Sort.ahead w n) g 0 d) os).heap[g]? = some (.cells (putCells enc 0 d cur) e fr) := by
  have hg : g < w.heap.size := (Array.getElem?_eq_some_iff.1 hb).1
  rw [heap_grow_old _ _ (by simpa using hg)]
  simp [putRow, mapBlock, Sort.ahead, Array.getElem?_modify, hb, onCells]
theorem grownBy_sorted' {α : Type} [Inhabited α] (enc : α → Value) {w : World} {g n : Nat} {os : Array Obj} (d : Array α) : w.grownBy (grow (putRow enc (Sort.ahead w n) g 0 d) os) (some g) := by
  refine ⟨rfl, rfl, rfl, by simp, fun k hk hne => ?_⟩
  rw [heap_grow_old _ _ (by simpa using hk)]
  have : g ≠ k := fun e => hne (by rw [e])
  simp [putRow, mapBlock, Sort.ahead, Array.getElem?_modify, this]
theorem Sp.sorted {w : World} {g cap n : Nat} {os : Array Obj} {d d' : Array (Int × Int)} (h : Sp w g cap d) (hs : d'.size = d.size) : Sp (sortWorldK encPl 2 w g 0 n d' os) g cap d' := by
  obtain ⟨cur, h1, h2, h3, -⟩ := h
  refine ⟨_, heap_sorted id (flatK encPl 2 d') h1, by simp [putCells, h2], by omega, fun j hj => ?_⟩
  have key : ∀ i, i < 2 → (putCells id 0 (flatK encPl 2 d') cur)[j * 2 + i]? = some ((encPl d'[j]!)[i]!) := fun i hi => by
    simp only [putCells, Array.getElem?_mapIdx]
    rw [Array.getElem?_eq_getElem (by omega)]
    simp only [Option.map_some, size_flatK]
    rw [if_pos ⟨by omega, by omega⟩, Nat.sub_zero, id, flatp_at d' _ (by omega), show (j * 2 + i) / 2 = j by omega, show (j * 2 + i) % 2 = i by omega]
  exact ⟨key 0 (by omega), key 1 (by omega)⟩
theorem flatP_len (ss : List (Int × Int)) : (flatP ss).length = ss.length * 2 := by
  induction ss with
  | nil => rfl
  | cons s l ih => simp only [flatP, List.map_cons, List.flatten_cons, List.length_append, List.length_cons] at *; rw [ih]; simp; omega
theorem flatP_at : ∀ (ss : List (Int × Int)) (i : Nat) (h : i < ss.length), (flatP ss)[i * 2]? = some (.int .i64 ss[i].1) ∧ (flatP ss)[i * 2 + 1]? = some (.int .i64 ss[i].2)
  | [], i, h => by simp at h
  | s :: ss, 0, _ => by simp [flatP]
  | s :: ss, i + 1, h => by
    have := flatP_at ss i (by simpa using h)
    have e : flatP (s :: ss) = [.int .i64 s.1, .int .i64 s.2] ++ flatP ss := by simp [flatP]
    rw [e, show (i + 1) * 2 = i * 2 + 2 by omega]
    simp only [List.getElem_cons_succ]
    refine ⟨?_, ?_⟩
    · rw [List.getElem?_append_right (by simp)]; simpa using this.1
    · rw [List.getElem?_append_right (by simp)]; simpa using this.2
theorem own_Sp {w : World} {base g cap : Nat} {l : List (Int × Int)} (h : w.ownsRow base 134 2 (.slice (some ⟨g, 0, none⟩) l.length cap) l.length (flatP l)) : Sp w g cap l.toArray ∧ base ≤ g := by
  rcases h.2 with ⟨q, -⟩ | ⟨g', cap', cur, e, hbg, hg, h1, -, h2, h3⟩
  · cases q
  · cases e
    refine ⟨⟨cur, hg, h2, by simpa using h1, fun j hj => ?_⟩, hbg⟩
    have hj' : j < l.length := by simpa using hj
    obtain ⟨f0, f1⟩ := flatP_at l j hj'
    have hc : ∀ t v, (flatP l)[t]? = some v → cur[t]? = some v := fun t v ht => by
      rw [← h3, List.getElem?_take] at ht
      split at ht
      · rw [← Array.getElem?_toList]; exact ht
      · cases ht
    rw [getElem!_pos l.toArray j hj]
    simp only [List.getElem_toArray]
    exact ⟨hc _ _ f0, hc _ _ f1⟩
theorem perm_list {α : Type} [Inhabited α] {d d' : Array α} (h : PermIn 0 d.size d d') : d'.toList.Perm d.toList := by
  obtain ⟨h1, -, h2⟩ := h
  rw [Array.extract_size] at h2
  rw [show d'.extract 0 d.size = d' by rw [← h1, Array.extract_size]] at h2
  exact h2
end Go.Proofs.YtlohoolimejihaaGreat
