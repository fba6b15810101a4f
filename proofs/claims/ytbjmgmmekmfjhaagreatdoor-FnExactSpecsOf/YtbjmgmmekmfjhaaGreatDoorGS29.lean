/-
The library's sorting and compacting of lists of ints, and of guesses, laid at this cut.
Lists that ascend; what sorting and compacting make of a list.
How impl.compareSpecs compares, and that it only makes new memory.
-/
import Derived.Shelf.SlSortCmp.NoneTotal
import Derived.Shelf.SlicesE.Compact
import Derived.Shelf.SlicesG.Cmp
import Derived.Test.YtbjmgmmekmfjhaaGreatDoorProg
import Derived.Test.YtbjmgmmekmfjhaaGreatDoorGS3
import Derived.Test.YtbjmgmmekmfjhaaGreatDoorGS4
import Derived.Test.YtbjmgmmekmfjhaaGreatDoorGS7
import Derived.Test.YtbjmgmmekmfjhaaGreatDoorGS11
import Derived.Sort.Grow
import Derived.Deep.RegionHeld3
set_option maxRecDepth 100000
namespace Go.Proofs
open Go.Shelf
def Tryz.sortSpec_ren : Go.Shelf.Ren := ⟨fun | 6 => 105 | 15 => 171 | 14 => 170 | 28 => 237 | 29 => 238 | 20 => 229 | 21 => 230 | 22 => 231 | 23 => 232 | 24 => 233 | 25 => 234 | 26 => 235 | 27 => 236 | 46 => 274 | 47 => 275 | 48 => 276 | 49 => 277 | 50 => 278 | 57 => 293 | n => n, fun | 22 => 32 | 24 => 97 | 25 => 103 | 3 => 3 | 39 => 258 | 0 => 0 | 53 => 334 | 55 => 244 | 4 => 4 | 46 => 328 | 45 => 327 | 50 => 274 | 5 => 5 | 9 => 9 | 66 => 367 | 70 => 371 | 76 => 398 | 77 => 287 | n => n, fun | n => n⟩
theorem Tryz.sortSpec : Go.Proofs.SlLaysF0.n6 Tryz.prog Tryz.sortSpec_ren := {
 mixed := by kernel_rfl
 f6 := ⟨Tryz.f105.name, by decide, Tryz.func105.trans (congrArg some (by kernel_rfl))⟩
 f14 := ⟨Tryz.f170.name, by decide, Tryz.func170.trans (congrArg some (by kernel_rfl))⟩
 f15 := Tryz.func171.trans (congrArg some (by kernel_rfl))
 f20 := ⟨Tryz.f229.name, by decide, Tryz.func229.trans (congrArg some (by kernel_rfl))⟩
 f21 := ⟨Tryz.f230.name, by decide, Tryz.func230.trans (congrArg some (by kernel_rfl))⟩
 f22 := ⟨Tryz.f231.name, by decide, Tryz.func231.trans (congrArg some (by kernel_rfl))⟩
 f23 := ⟨Tryz.f232.name, by decide, Tryz.func232.trans (congrArg some (by kernel_rfl))⟩
 f24 := ⟨Tryz.f233.name, by decide, Tryz.func233.trans (congrArg some (by kernel_rfl))⟩
 f25 := ⟨Tryz.f234.name, by decide, Tryz.func234.trans (congrArg some (by kernel_rfl))⟩
 f26 := ⟨Tryz.f235.name, by decide, Tryz.func235.trans (congrArg some (by kernel_rfl))⟩
 f27 := ⟨Tryz.f236.name, by decide, Tryz.func236.trans (congrArg some (by kernel_rfl))⟩
 f28 := Tryz.func237.trans (congrArg some (by kernel_rfl))
 f29 := Tryz.func238.trans (congrArg some (by kernel_rfl))
 f46 := ⟨Tryz.f274.name, by decide, Tryz.func274.trans (congrArg some (by kernel_rfl))⟩
 f47 := Tryz.func275.trans (congrArg some (by kernel_rfl))
 f48 := Tryz.func276.trans (congrArg some (by kernel_rfl))
 f49 := ⟨Tryz.f277.name, by decide, Tryz.func277.trans (congrArg some (by kernel_rfl))⟩
 f50 := ⟨Tryz.f278.name, by decide, Tryz.func278.trans (congrArg some (by kernel_rfl))⟩
 f57 := ⟨Tryz.f293.name, by decide, Tryz.func293.trans (congrArg some (by kernel_rfl))⟩
 t0 := Tryz.underlying0
 a0 := Tryz.isAgg0
 z0 := Tryz.sizeOf0
 v0 := Tryz.zeroValue0
 t3 := Tryz.underlying3
 a3 := Tryz.isAgg3
 z3 := Tryz.sizeOf3
 v3 := Tryz.zeroValue3
 t4 := Tryz.underlying4
 a4 := Tryz.isAgg4
 z4 := Tryz.sizeOf4
 v4 := Tryz.zeroValue4
 t5 := Tryz.underlying5
 a5 := Tryz.isAgg5
 z5 := Tryz.sizeOf5
 v5 := Tryz.zeroValue5
 t9 := Tryz.underlying9
 a9 := Tryz.isAgg9
 z9 := Tryz.sizeOf9
 v9 := Tryz.zeroValue9
 t22 := Tryz.underlying32
 a22 := Tryz.isAgg32
 z22 := Tryz.sizeOf32
 v22 := Tryz.zeroValue32
 t25 := Tryz.underlying103
 a25 := Tryz.isAgg103
 z25 := Tryz.sizeOf103
 v25 := Tryz.zeroValue103
 t39 := Tryz.underlying258
 a39 := Tryz.isAgg258
 z39 := Tryz.sizeOf258
 v39 := Tryz.zeroValue258
 t45 := Tryz.underlying327
 a45 := Tryz.isAgg327
 z45 := Tryz.sizeOf327
 v45 := Tryz.zeroValue327
 t46 := Tryz.underlying328
 a46 := Tryz.isAgg328
 z46 := Tryz.sizeOf328
 v46 := Tryz.zeroValue328
 t50 := Tryz.underlying274
 a50 := Tryz.isAgg274
 z50 := Tryz.sizeOf274
 v50 := Tryz.zeroValue274
 t53 := Tryz.underlying334
 a53 := Tryz.isAgg334
 z53 := Tryz.sizeOf334
 v53 := Tryz.zeroValue334
 t55 := Tryz.underlying244
 a55 := Tryz.isAgg244
 z55 := Tryz.sizeOf244
 v55 := Tryz.zeroValue244
 t66 := Tryz.underlying367
 a66 := Tryz.isAgg367
 z66 := Tryz.sizeOf367
 v66 := Tryz.zeroValue367
 t70 := Tryz.underlying371
 a70 := Tryz.isAgg371
 z70 := Tryz.sizeOf371
 v70 := Tryz.zeroValue371
 t76 := Tryz.underlying398
 a76 := Tryz.isAgg398
 z76 := Tryz.sizeOf398
 v76 := Tryz.zeroValue398
 t77 := Tryz.underlying287
 a77 := Tryz.isAgg287
 z77 := Tryz.sizeOf287
 v77 := Tryz.zeroValue287 }
end Go.Proofs
namespace Go.Proofs.YtbjmgmmekmfjhaaGreatDoor
open Go.Sort Go.Lib
theorem asc_ext {α : Type} {lt : α → α → Prop} (has : ∀ x y, lt x y → ¬ lt y x) : ∀ (S T : List α), S.Pairwise lt → T.Pairwise lt → (∀ x, x ∈ S ↔ x ∈ T) → S = T
 | [], [], _, _, _ => rfl
 | [], b :: T, _, _, h => absurd ((h b).2 List.mem_cons_self) (by simp)
 | a :: S, [], _, _, h => absurd ((h a).1 List.mem_cons_self) (by simp)
 | a :: S, b :: T, hS, hT, h => by
  rw [List.pairwise_cons] at hS hT
  have e : a = b := by
   rcases List.mem_cons.1 ((h a).1 List.mem_cons_self) with e | h1
   · exact e
   ·
    rcases List.mem_cons.1 ((h b).2 List.mem_cons_self) with e | h2
    · exact e.symm
    · exact absurd (hT.1 a h1) (has _ _ (hS.1 b h2))
  subst e
  rw [asc_ext has S T hS.2 hT.2 fun x => ?_]
  constructor
  ·
   intro hx
   rcases List.mem_cons.1 ((h x).1 (List.mem_cons_of_mem _ hx)) with e | h1
   · subst e; exact absurd (hS.1 x hx) (fun q => has _ _ q q)
   · exact h1
  ·
   intro hx
   rcases List.mem_cons.1 ((h x).2 (List.mem_cons_of_mem _ hx)) with e | h1
   · subst e; exact absurd (hT.1 x hx) (fun q => has _ _ q q)
   · exact h1
theorem perm_mem {α : Type} [Inhabited α] {d d' : Array α} (h : PermIn 0 d.size d d') (x : α) : x ∈ d'.toList ↔ x ∈ d.toList := by
 obtain ⟨h1, -, h2⟩ := h
 have h3 := h2.mem_iff (a := x)
 rw [Array.extract_size] at h3
 rw [show d'.extract 0 d.size = d' by rw [← h1, Array.extract_size]] at h3
 exact h3
theorem keep_first {α : Type} [Inhabited α] [DecidableEq α] (d : Array α) : ∀ i, i < d.size → ∃ j, j < d.size ∧ keeps d j = true ∧ d[j]! = d[i]!
 | 0, h => ⟨0, h, by simp [keeps], rfl⟩
 | i + 1, h => by
  by_cases hk : keeps d (i + 1) = true
  · exact ⟨i + 1, h, hk, rfl⟩
  ·
   have e : d[i + 1]! = d[i]! := by simpa [keeps] using hk
   obtain ⟨j, h1, h2, h3⟩ := keep_first d i (by omega)
   exact ⟨j, h1, h2, by rw [h3, e]⟩
theorem compact_asc {α : Type} [Inhabited α] [DecidableEq α] (lt : α → α → Bool) (hO : SWO lt) (hT : ∀ x y, lt x y = false → lt y x = false → x = y) (d : Array α) (hs : SortedIn lt 0 d.size d) :
  (compactUpTo d d.size).Pairwise (fun x y => lt x y = true) ∧ (∀ x, x ∈ compactUpTo d d.size ↔ x ∈ d.toList) ∧ (compactUpTo d d.size).length ≤ d.size := by
 refine ⟨?_, fun x => ?_, ?_⟩
 ·
  unfold compactUpTo
  rw [List.pairwise_map]
  have hr : ((List.range d.size).filter (keeps d)).Pairwise (· < ·) := List.Pairwise.filter _ List.pairwise_lt_range
  refine hr.imp_of_mem fun {i j} hi hj hlt => ?_
  obtain ⟨hj1, hj2⟩ := List.mem_filter.1 hj
  have hjs : j < d.size := List.mem_range.1 hj1
  have hne : d[j]! ≠ d[j - 1]! := by
   have := of_decide_eq_true hj2
   rcases this with h | h
   · omega
   · exact h
  have h1 : lt d[j]! d[j - 1]! = false := hs (j - 1) j (Nat.zero_le _) (by omega) hjs
  have h2 : lt d[j - 1]! d[j]! = true := by
   cases h : lt d[j - 1]! d[j]! with
   | true => rfl
   | false => exact absurd (hT _ _ h1 h) hne
  cases h : lt d[i]! d[j]! with
  | true => rfl
  | false =>
   have h3 : lt d[j - 1]! d[i]! = false := by
    by_cases e : i = j - 1
    · subst e; exact hO.irrefl _
    · exact hs i (j - 1) (Nat.zero_le _) (by omega) (by omega)
   have := hO.ntrans _ _ _ h3 h
   rw [h2] at this
   cases this
 ·
  unfold compactUpTo
  rw [List.mem_map]
  constructor
  ·
   rintro ⟨j, hj, rfl⟩
   have hjs : j < d.size := List.mem_range.1 (List.mem_filter.1 hj).1
   rw [getElem!_pos d j hjs]
   exact Array.getElem_mem_toList hjs
  ·
   intro hx
   obtain ⟨i, hi, rfl⟩ := List.getElem_of_mem hx
   have his : i < d.size := by simpa using hi
   obtain ⟨j, h1, h2, h3⟩ := keep_first d i his
   refine ⟨j, List.mem_filter.2 ⟨List.mem_range.2 h1, h2⟩, ?_⟩
   rw [h3, getElem!_pos d i his]
   simp
 ·
  unfold compactUpTo
  rw [List.length_map]
  exact Nat.le_trans (List.length_filter_le _ _) (by simp)
end Go.Proofs.YtbjmgmmekmfjhaaGreatDoor
namespace Go.Proofs.YtbjmgmmekmfjhaaGreatDoor
open Go.RowKit Go.Sort
structure Grw (w w' : World) : Prop where
 below : Below w.heap.size w w'
 drawn : w.drawn ≤ w'.drawn
theorem Grw.refl (w : World) : Grw w w := ⟨Below.refl _ _, Nat.le_refl _⟩
theorem Grw.trans {a b c : World} (h : Grw a b) (k : Grw b c) : Grw a c := ⟨h.below.trans (k.below.mono h.below.size), Nat.le_trans h.drawn k.drawn⟩
theorem Grw.alloc {a w : World} (h : Grw a w) (o : Obj) : Grw a (w.alloc o) := ⟨h.below.alloc h.below.size _, h.drawn⟩
theorem Grw.drew {a w : World} (h : Grw a w) : Grw a w.drew := ⟨h.below.drew, Nat.le_trans h.drawn (Nat.le_succ _)⟩
theorem Grw.form {w w' : World} (h : Grw w w') : ∃ q os, w' = grow (w.drewN q) os := by
 refine ⟨w'.drawn - w.drawn, w'.heap.extract w.heap.size w'.heap.size, ?_⟩
 have hh : w'.heap = w.heap ++ w'.heap.extract w.heap.size w'.heap.size := by
  apply Array.ext_getElem?
  intro k
  by_cases hk : k < w.heap.size
  ·
   rw [Array.getElem?_append_left hk]
   exact h.below.block k hk
  ·
   rw [Array.getElem?_append_right (by omega), Array.getElem?_extract]
   by_cases h2 : k < w'.heap.size
   · rw [if_pos (by omega), show w.heap.size + (k - w.heap.size) = k by omega]
   · rw [if_neg (by omega), Array.getElem?_eq_none (by omega)]
 have h1 := h.below.os
 have h2 := h.below.tape
 have h3 := h.below.output
 have h4 := h.drawn
 obtain ⟨e1, e2, e3, e4, e5⟩ := w'
 simp only at h1 h2 h3 h4 hh
 subst h1 h2 h3
 simp only [grow, World.drewN]
 congr 1
 omega
set_option maxHeartbeats 400000 in
theorem guessed_g (f p s t : Int) (w : World) :
  Calls Tryz.prog 109 #[.agg #[.int .i64 f, .int .i64 p, .int .i64 s, .int .i64 t]] w fun e w' => e = .returned (.agg #[.int .i64 f, .int .i64 p]) ∧ Grw w w' := by
 go_enter Tryz.func109, Tryz.ntmps109
 go_wp2
 refine bodyPost_ret (v := .agg #[.int .i64 f, .int .i64 p]) (by simp [results, Tryz.results109, go_sem]) rfl ⟨rfl, ?_, ?_⟩
 · repeat (first | refine Below.setCell ?_ (by first | omega | (simp; omega) | simp) _ | refine Below.alloc ?_ (by first | omega | (simp; omega) | simp) _ | exact Below.refl _ _)
 · exact Nat.le_refl _
set_option maxHeartbeats 1000000 in
theorem or2_g (x0 x1 : Int) (g cap : Nat) (w : World) (h0 : w.cell? ⟨g, 0, none⟩ = some (.int .i64 x0)) (h1 : w.cell? ⟨g, 1, none⟩ = some (.int .i64 x1)) :
  Calls Tryz.prog 107 #[.slice (some ⟨g, 0, none⟩) 2 cap] w fun e w' => e = .returned (.int .i64 (orI x0 x1)) ∧ Grw w w' := by
 unfold orI
 go_enter Tryz.func107, Tryz.ntmps107
 go_wp2
 go_loopw [8] (fun i wr => ∃ (k : Nat), k ≤ 2 ∧ i = .int .i64 k ∧ Hid (0 < k → x0 = 0) ∧ Hid (1 < k → x1 = 0) ∧ Hid (Grw w wr)) (fun i _ => 2 - (intOf i).toNat)
 case atStart => exact ⟨0, by omega, rfl, fun h => absurd h (by omega), fun h => absurd h (by omega), Grw.refl _⟩
 case round =>
  obtain ⟨k, hk, rfl, z0, z1, hb⟩ := hrel
  have c0 := cell_later hb.out.below h0
  have c1 := cell_later hb.out.below h1
  clear h0 h1
  obtain rfl | rfl | rfl : k = 0 ∨ k = 1 ∨ k = 2 := by omega
  ·
   by_cases h : x0 = 0
   ·
    subst h
    go_wp2
    go_roundw
    case rel => exact ⟨1, by omega, rfl, (by show _ → _; simp), fun h => absurd h (by omega), hb⟩
    case measure => simp [intOf]
   ·
    go_wp2
    go_ret
    exact ⟨rfl, hb.out⟩
  ·
   obtain rfl := z0.out (by omega)
   by_cases h : x1 = 0
   ·
    subst h
    go_wp2
    go_roundw
    case rel => exact ⟨2, by omega, rfl, (by show _ → _; simp), (by show _ → _; simp), hb⟩
    case measure => simp [intOf]
   ·
    go_wp2
    go_ret
    exact ⟨rfl, hb.out⟩
  ·
   obtain rfl := z0.out (by omega)
   obtain rfl := z1.out (by omega)
   go_wp2
   go_ret
   exact ⟨rfl, hb.out⟩
set_option maxHeartbeats 1000000 in
theorem or3_g (x0 x1 x2 : Int) (g cap : Nat) (w : World) (h0 : w.cell? ⟨g, 0, none⟩ = some (.int .i64 x0)) (h1 : w.cell? ⟨g, 1, none⟩ = some (.int .i64 x1)) (h2 : w.cell? ⟨g, 2, none⟩ = some (.int .i64 x2)) :
  Calls Tryz.prog 107 #[.slice (some ⟨g, 0, none⟩) 3 cap] w fun e w' => e = .returned (.int .i64 (orI x0 (orI x1 x2))) ∧ Grw w w' := by
 unfold orI
 go_enter Tryz.func107, Tryz.ntmps107
 go_wp2
 go_loopw [8] (fun i wr => ∃ (k : Nat), k ≤ 3 ∧ i = .int .i64 k ∧ Hid (0 < k → x0 = 0) ∧ Hid (1 < k → x1 = 0) ∧ Hid (2 < k → x2 = 0) ∧ Hid (Grw w wr)) (fun i _ => 3 - (intOf i).toNat)
 case atStart => exact ⟨0, by omega, rfl, fun h => absurd h (by omega), fun h => absurd h (by omega), fun h => absurd h (by omega), Grw.refl _⟩
 case round =>
  obtain ⟨k, hk, rfl, z0, z1, z2, hb⟩ := hrel
  have c0 := cell_later hb.out.below h0
  have c1 := cell_later hb.out.below h1
  have c2 := cell_later hb.out.below h2
  clear h0 h1 h2
  obtain rfl | rfl | rfl | rfl : k = 0 ∨ k = 1 ∨ k = 2 ∨ k = 3 := by omega
  ·
   by_cases h : x0 = 0
   ·
    subst h
    go_wp2
    go_roundw
    case rel => exact ⟨1, by omega, rfl, (by show _ → _; simp), fun h => absurd h (by omega), fun h => absurd h (by omega), hb⟩
    case measure => simp [intOf]
   ·
    go_wp2
    go_ret
    exact ⟨rfl, hb.out⟩
  ·
   obtain rfl := z0.out (by omega)
   by_cases h : x1 = 0
   ·
    subst h
    go_wp2
    go_roundw
    case rel => exact ⟨2, by omega, rfl, (by show _ → _; simp), (by show _ → _; simp), fun h => absurd h (by omega), hb⟩
    case measure => simp [intOf]
   ·
    go_wp2
    go_ret
    exact ⟨rfl, hb.out⟩
  ·
   obtain rfl := z0.out (by omega)
   obtain rfl := z1.out (by omega)
   by_cases h : x2 = 0
   ·
    subst h
    go_wp2
    go_roundw
    case rel => exact ⟨3, by omega, rfl, (by show _ → _; simp), (by show _ → _; simp), (by show _ → _; simp), hb⟩
    case measure => simp [intOf]
   ·
    go_wp2
    go_ret
    exact ⟨rfl, hb.out⟩
  ·
   obtain rfl := z0.out (by omega)
   obtain rfl := z1.out (by omega)
   obtain rfl := z2.out (by omega)
   go_wp2
   go_ret
   exact ⟨rfl, hb.out⟩
set_option maxHeartbeats 4000000 in
theorem comparePlaces_g (af ap bf bp : Int) (w : World) :
  Calls Tryz.prog 108 #[.agg #[.int .i64 af, .int .i64 ap], .agg #[.int .i64 bf, .int .i64 bp]] w fun e w' => e = .returned (.int .i64 (orI (cmpI af bf) (cmpI ap bp))) ∧ Grw w w' := by
 obtain ⟨wA, hwA⟩ : ∃ wA, wA = (w.alloc (.cells #[.int .i64 af, .int .i64 ap] 182)).alloc (.cells #[.int .i64 bf, .int .i64 bp] 182) := ⟨_, rfl⟩
 have HG : Hid (Grw w wA) := by rw [hwA]; exact ((Grw.refl w).alloc _).alloc _
 have hX : wA.heap[w.heap.size]? = some (.cells #[.int .i64 af, .int .i64 ap] 182 (0, 0)) := by rw [hwA]; exact block_old (block_new _ _ _) _
 have hY : wA.heap[w.heap.size + 1]? = some (.cells #[.int .i64 bf, .int .i64 bp] 182 (0, 0)) := by rw [hwA]; exact block_new_at _ _ _ _ (by simp)
 have HS : Hid (∀ w', Below wA.heap.size wA w' → w'.cell? ⟨w.heap.size, 0, none⟩ = some (.int .i64 af) ∧ w'.cell? ⟨w.heap.size, 1, none⟩ = some (.int .i64 ap) ∧ w'.cell? ⟨w.heap.size + 1, 0, none⟩ = some (.int .i64 bf) ∧ w'.cell? ⟨w.heap.size + 1, 1, none⟩ = some (.int .i64 bp)) := fun w' q => ⟨by rw [block_cell (block_kept hX q)]; rfl, by rw [block_cell (block_kept hX q)]; rfl, by rw [block_cell (block_kept hY q)]; rfl, by rw [block_cell (block_kept hY q)]; rfl⟩
 clear hX hY
 go_enter Tryz.func108, Tryz.ntmps108
 go_wp2
 rw [← hwA]
 clear hwA
 have q : Grw wA wA.drew := (Grw.refl _).drew
 go_region_held3 (fun w' => w'.cell? ⟨w.heap.size, 0, none⟩ = some (.int .i64 af) ∧ w'.cell? ⟨w.heap.size, 1, none⟩ = some (.int .i64 ap) ∧ w'.cell? ⟨w.heap.size + 1, 0, none⟩ = some (.int .i64 bf) ∧ w'.cell? ⟨w.heap.size + 1, 1, none⟩ = some (.int .i64 bp))
  ((refine HS.out _ ?_; first | exact q.below | exact Below.refl _ _ | exact (q.alloc _).below | exact (((Grw.refl wA).alloc _).drew).below))
  (first
   | (go_at_call 69; refine (compare_any _ _ _).mono ?_; rintro e wb ⟨rfl, hwb⟩; subst hwb)
   | (go_at_call 107; refine (or2_g (cmpI af bf) (cmpI ap bp) _ _ _ (by exact (cell_new _ #[.int .i64 (cmpI af bf), .int .i64 (cmpI ap bp)] 3 0).trans rfl) (by exact (cell_new _ #[.int .i64 (cmpI af bf), .int .i64 (cmpI ap bp)] 3 1).trans rfl)).mono ?_; rintro e w3 ⟨rfl, kd⟩; have q := ((((Grw.refl wA).alloc (.cells #[.int .i64 (cmpI af bf), .int .i64 (cmpI ap bp)] 3)).drew).trans kd)))
 go_wp2
 go_ret
 exact ⟨rfl, HG.out.trans q⟩
def cmpS (a b : Si) : Int := orI (orI (cmpI a.f b.f) (cmpI a.pc b.pc)) (orI (cmpI a.target b.target) (cmpI a.seen b.seen))
set_option maxHeartbeats 4000000 in
theorem compareSpecs_g (a b : Si) (w : World) :
  Calls Tryz.prog 57 #[.agg #[.int .i64 a.f, .int .i64 a.pc, .int .i64 a.seen, .int .i64 a.target], .agg #[.int .i64 b.f, .int .i64 b.pc, .int .i64 b.seen, .int .i64 b.target]] w fun e w' => e = .returned (.int .i64 (cmpS a b)) ∧ Grw w w' := by
 obtain ⟨wA, hwA⟩ : ∃ wA, wA = (w.alloc (.cells #[.int .i64 a.f, .int .i64 a.pc, .int .i64 a.seen, .int .i64 a.target] 97)).alloc (.cells #[.int .i64 b.f, .int .i64 b.pc, .int .i64 b.seen, .int .i64 b.target] 97) := ⟨_, rfl⟩
 have HG : Hid (Grw w wA) := by rw [hwA]; exact ((Grw.refl w).alloc _).alloc _
 have hX : wA.heap[w.heap.size]? = some (.cells #[.int .i64 a.f, .int .i64 a.pc, .int .i64 a.seen, .int .i64 a.target] 97 (0, 0)) := by rw [hwA]; exact block_old (block_new _ _ _) _
 have hY : wA.heap[w.heap.size + 1]? = some (.cells #[.int .i64 b.f, .int .i64 b.pc, .int .i64 b.seen, .int .i64 b.target] 97 (0, 0)) := by rw [hwA]; exact block_new_at _ _ _ _ (by simp)
 have HS : Hid (∀ w', Below wA.heap.size wA w' → w'.cell? ⟨w.heap.size, 0, none⟩ = some (.int .i64 a.f) ∧ w'.cell? ⟨w.heap.size, 1, none⟩ = some (.int .i64 a.pc) ∧ w'.cell? ⟨w.heap.size, 2, none⟩ = some (.int .i64 a.seen) ∧ w'.cell? ⟨w.heap.size, 3, none⟩ = some (.int .i64 a.target) ∧ w'.cell? ⟨w.heap.size + 1, 0, none⟩ = some (.int .i64 b.f) ∧ w'.cell? ⟨w.heap.size + 1, 1, none⟩ = some (.int .i64 b.pc) ∧ w'.cell? ⟨w.heap.size + 1, 2, none⟩ = some (.int .i64 b.seen) ∧ w'.cell? ⟨w.heap.size + 1, 3, none⟩ = some (.int .i64 b.target)) := fun w' q => ⟨by rw [block_cell (block_kept hX q)]; rfl, by rw [block_cell (block_kept hX q)]; rfl, by rw [block_cell (block_kept hX q)]; rfl, by rw [block_cell (block_kept hX q)]; rfl, by rw [block_cell (block_kept hY q)]; rfl, by rw [block_cell (block_kept hY q)]; rfl, by rw [block_cell (block_kept hY q)]; rfl, by rw [block_cell (block_kept hY q)]; rfl⟩
 clear hX hY
 go_enter Tryz.func57, Tryz.ntmps57
 go_wp2
 rw [← hwA]
 clear hwA
 have q : Grw wA wA.drew := (Grw.refl _).drew
 go_region_held3 (fun w' => w'.cell? ⟨w.heap.size, 0, none⟩ = some (.int .i64 a.f) ∧ w'.cell? ⟨w.heap.size, 1, none⟩ = some (.int .i64 a.pc) ∧ w'.cell? ⟨w.heap.size, 2, none⟩ = some (.int .i64 a.seen) ∧ w'.cell? ⟨w.heap.size, 3, none⟩ = some (.int .i64 a.target) ∧ w'.cell? ⟨w.heap.size + 1, 0, none⟩ = some (.int .i64 b.f) ∧ w'.cell? ⟨w.heap.size + 1, 1, none⟩ = some (.int .i64 b.pc) ∧ w'.cell? ⟨w.heap.size + 1, 2, none⟩ = some (.int .i64 b.seen) ∧ w'.cell? ⟨w.heap.size + 1, 3, none⟩ = some (.int .i64 b.target))
  ((refine HS.out _ ?_; first | exact q.below | exact Below.refl _ _ | exact (q.alloc _).below | exact (((Grw.refl wA).alloc _).drew).below))
  (first
   | (go_at_call 69; refine (compare_any _ _ _).mono ?_; rintro e wb ⟨rfl, hwb⟩; subst hwb)
   | (go_at_call 109; refine (guessed_g _ _ _ _ _).mono ?_; rintro e wg ⟨rfl, kd⟩; have q := q.trans kd)
   | (go_at_call 108; refine (comparePlaces_g _ _ _ _ _).mono ?_; rintro e wg ⟨rfl, kd⟩; have q := q.trans kd)
   | (go_at_call 107; refine (or3_g (orI (cmpI a.f b.f) (cmpI a.pc b.pc)) (cmpI a.target b.target) (cmpI a.seen b.seen) _ _ _ (by exact (cell_new _ #[.int .i64 (orI (cmpI a.f b.f) (cmpI a.pc b.pc)), .int .i64 (cmpI a.target b.target), .int .i64 (cmpI a.seen b.seen)] 3 0).trans rfl) (by exact (cell_new _ #[.int .i64 (orI (cmpI a.f b.f) (cmpI a.pc b.pc)), .int .i64 (cmpI a.target b.target), .int .i64 (cmpI a.seen b.seen)] 3 1).trans rfl) (by exact (cell_new _ #[.int .i64 (orI (cmpI a.f b.f) (cmpI a.pc b.pc)), .int .i64 (cmpI a.target b.target), .int .i64 (cmpI a.seen b.seen)] 3 2).trans rfl)).mono ?_; rintro e w3 ⟨rfl, kd⟩; have q := ((q.alloc (.cells #[.int .i64 (orI (cmpI a.f b.f) (cmpI a.pc b.pc)), .int .i64 (cmpI a.target b.target), .int .i64 (cmpI a.seen b.seen)] 3)).trans kd)))
 go_wp2
 go_ret
 exact ⟨rfl, HG.out.trans q⟩
end Go.Proofs.YtbjmgmmekmfjhaaGreatDoor
