/-
The library's sorting and compacting of lists of ints, and of guesses, laid at this cut.
Lists that ascend; what sorting and compacting make of a list.
What impl.rising makes of a list of ints.
Small functions of the program on code: between, has, isIn, endOp.
-/
import Derived.Shelf.SlSortCmp.NoneTotal
import Derived.Shelf.SlicesE.Compact
import Derived.Shelf.SlicesG.Cmp
import Derived.Test.YtbjmgmmekmfjhaaGreatDoorProg
import Derived.Test.YtbjmgmmekmfjhaaGreatDoorGL3
import Derived.Test.YtbjmgmmekmfjhaaGreatDoorGL11
import Derived.Test.YtbjmgmmekmfjhaaGreatDoorGL7
import Derived.Sort.OwnSortedInts
import Derived.Test.YtbjmgmmekmfjhaaGreatDoorGL23
set_option maxRecDepth 100000
namespace Go.Proofs
open Go.Shelf
def Tryz.sortInt_ren : Go.Shelf.Ren := ⟨fun | 6 => 117 | 15 => 171 | 14 => 176 | 28 => 237 | 29 => 238 | 20 => 242 | 21 => 243 | 22 => 244 | 23 => 245 | 24 => 246 | 25 => 247 | 26 => 248 | 27 => 249 | 46 => 280 | 47 => 275 | 48 => 276 | 49 => 281 | 50 => 282 | 57 => 295 | n => n, fun | 22 => 50 | 24 => 3 | 25 => 116 | 3 => 3 | 39 => 258 | 0 => 0 | 53 => 334 | 55 => 244 | 4 => 4 | 46 => 328 | 45 => 327 | 50 => 274 | 5 => 5 | 9 => 9 | 66 => 367 | 70 => 371 | 76 => 398 | 77 => 287 | n => n, fun | n => n⟩
theorem Tryz.sortInt : Go.Proofs.SlLaysF.n6 Tryz.prog Tryz.sortInt_ren := {
 mixed := by kernel_rfl
 f6 := ⟨Tryz.f117.name, by decide, Tryz.func117.trans (congrArg some (by kernel_rfl))⟩
 f14 := ⟨Tryz.f176.name, by decide, Tryz.func176.trans (congrArg some (by kernel_rfl))⟩
 f15 := Tryz.func171.trans (congrArg some (by kernel_rfl))
 f20 := ⟨Tryz.f242.name, by decide, Tryz.func242.trans (congrArg some (by kernel_rfl))⟩
 f21 := ⟨Tryz.f243.name, by decide, Tryz.func243.trans (congrArg some (by kernel_rfl))⟩
 f22 := ⟨Tryz.f244.name, by decide, Tryz.func244.trans (congrArg some (by kernel_rfl))⟩
 f23 := ⟨Tryz.f245.name, by decide, Tryz.func245.trans (congrArg some (by kernel_rfl))⟩
 f24 := ⟨Tryz.f246.name, by decide, Tryz.func246.trans (congrArg some (by kernel_rfl))⟩
 f25 := ⟨Tryz.f247.name, by decide, Tryz.func247.trans (congrArg some (by kernel_rfl))⟩
 f26 := ⟨Tryz.f248.name, by decide, Tryz.func248.trans (congrArg some (by kernel_rfl))⟩
 f27 := ⟨Tryz.f249.name, by decide, Tryz.func249.trans (congrArg some (by kernel_rfl))⟩
 f28 := Tryz.func237.trans (congrArg some (by kernel_rfl))
 f29 := Tryz.func238.trans (congrArg some (by kernel_rfl))
 f46 := ⟨Tryz.f280.name, by decide, Tryz.func280.trans (congrArg some (by kernel_rfl))⟩
 f47 := Tryz.func275.trans (congrArg some (by kernel_rfl))
 f48 := Tryz.func276.trans (congrArg some (by kernel_rfl))
 f49 := ⟨Tryz.f281.name, by decide, Tryz.func281.trans (congrArg some (by kernel_rfl))⟩
 f50 := ⟨Tryz.f282.name, by decide, Tryz.func282.trans (congrArg some (by kernel_rfl))⟩
 f57 := ⟨Tryz.f295.name, by decide, Tryz.func295.trans (congrArg some (by kernel_rfl))⟩
 t0 := Tryz.underlying0
 a0 := Tryz.isAgg0
 z0 := Tryz.sizeOf0
 v0 := Tryz.zeroValue0
 t3 := Tryz.underlying3
 a3 := Tryz.isAgg3
 z3 := Tryz.sizeOf3
 v3 := Tryz.zeroValue3
 t4 := Tryz.underlying4
 a4 := Tryz.isAgg4
 z4 := Tryz.sizeOf4
 v4 := Tryz.zeroValue4
 t5 := Tryz.underlying5
 a5 := Tryz.isAgg5
 z5 := Tryz.sizeOf5
 v5 := Tryz.zeroValue5
 t9 := Tryz.underlying9
 a9 := Tryz.isAgg9
 z9 := Tryz.sizeOf9
 v9 := Tryz.zeroValue9
 t22 := Tryz.underlying50
 a22 := Tryz.isAgg50
 z22 := Tryz.sizeOf50
 v22 := Tryz.zeroValue50
 a24 := Tryz.isAgg3
 z24 := Tryz.sizeOf3
 t25 := Tryz.underlying116
 a25 := Tryz.isAgg116
 z25 := Tryz.sizeOf116
 v25 := Tryz.zeroValue116
 t39 := Tryz.underlying258
 a39 := Tryz.isAgg258
 z39 := Tryz.sizeOf258
 v39 := Tryz.zeroValue258
 t45 := Tryz.underlying327
 a45 := Tryz.isAgg327
 z45 := Tryz.sizeOf327
 v45 := Tryz.zeroValue327
 t46 := Tryz.underlying328
 a46 := Tryz.isAgg328
 z46 := Tryz.sizeOf328
 v46 := Tryz.zeroValue328
 t50 := Tryz.underlying274
 a50 := Tryz.isAgg274
 z50 := Tryz.sizeOf274
 v50 := Tryz.zeroValue274
 t53 := Tryz.underlying334
 a53 := Tryz.isAgg334
 z53 := Tryz.sizeOf334
 v53 := Tryz.zeroValue334
 t55 := Tryz.underlying244
 a55 := Tryz.isAgg244
 z55 := Tryz.sizeOf244
 v55 := Tryz.zeroValue244
 t66 := Tryz.underlying367
 a66 := Tryz.isAgg367
 z66 := Tryz.sizeOf367
 v66 := Tryz.zeroValue367
 t70 := Tryz.underlying371
 a70 := Tryz.isAgg371
 z70 := Tryz.sizeOf371
 v70 := Tryz.zeroValue371
 t76 := Tryz.underlying398
 a76 := Tryz.isAgg398
 z76 := Tryz.sizeOf398
 v76 := Tryz.zeroValue398
 t77 := Tryz.underlying287
 a77 := Tryz.isAgg287
 z77 := Tryz.sizeOf287
 v77 := Tryz.zeroValue287 }
def Tryz.compactInt_ren : Go.Shelf.Ren := ⟨fun | 43 => 118 | n => n, fun | 22 => 50 | 23 => 3 | 3 => 3 | 4 => 4 | 0 => 0 | n => n, fun | n => n⟩
theorem Tryz.compactInt : Go.Proofs.SlLaysE.n43 Tryz.prog Tryz.compactInt_ren := {
 mixed := by kernel_rfl
 f43 := ⟨Tryz.f118.name, by decide, Tryz.func118.trans (congrArg some (by kernel_rfl))⟩
 t0 := Tryz.underlying0
 a0 := Tryz.isAgg0
 z0 := Tryz.sizeOf0
 v0 := Tryz.zeroValue0
 t3 := Tryz.underlying3
 a3 := Tryz.isAgg3
 z3 := Tryz.sizeOf3
 v3 := Tryz.zeroValue3
 t4 := Tryz.underlying4
 a4 := Tryz.isAgg4
 z4 := Tryz.sizeOf4
 v4 := Tryz.zeroValue4
 t22 := Tryz.underlying50
 a22 := Tryz.isAgg50
 z22 := Tryz.sizeOf50
 v22 := Tryz.zeroValue50
 a23 := Tryz.isAgg3
 z23 := Tryz.sizeOf3 }
end Go.Proofs
namespace Go.Proofs.YtbjmgmmekmfjhaaGreatDoor
open Go.Sort Go.Lib
theorem asc_ext {α : Type} {lt : α → α → Prop} (has : ∀ x y, lt x y → ¬ lt y x) : ∀ (S T : List α), S.Pairwise lt → T.Pairwise lt → (∀ x, x ∈ S ↔ x ∈ T) → S = T
 | [], [], _, _, _ => rfl
 | [], b :: T, _, _, h => absurd ((h b).2 List.mem_cons_self) (by simp)
 | a :: S, [], _, _, h => absurd ((h a).1 List.mem_cons_self) (by simp)
 | a :: S, b :: T, hS, hT, h => by
  rw [List.pairwise_cons] at hS hT
  have e : a = b := by
   rcases List.mem_cons.1 ((h a).1 List.mem_cons_self) with e | h1
   · exact e
   ·
    rcases List.mem_cons.1 ((h b).2 List.mem_cons_self) with e | h2
    · exact e.symm
    · exact absurd (hT.1 a h1) (has _ _ (hS.1 b h2))
  subst e
  rw [asc_ext has S T hS.2 hT.2 fun x => ?_]
  constructor
  ·
   intro hx
   rcases List.mem_cons.1 ((h x).1 (List.mem_cons_of_mem _ hx)) with e | h1
   · subst e; exact absurd (hS.1 x hx) (fun q => has _ _ q q)
   · exact h1
  ·
   intro hx
   rcases List.mem_cons.1 ((h x).2 (List.mem_cons_of_mem _ hx)) with e | h1
   · subst e; exact absurd (hT.1 x hx) (fun q => has _ _ q q)
   · exact h1
theorem perm_mem {α : Type} [Inhabited α] {d d' : Array α} (h : PermIn 0 d.size d d') (x : α) : x ∈ d'.toList ↔ x ∈ d.toList := by
 obtain ⟨h1, -, h2⟩ := h
 have h3 := h2.mem_iff (a := x)
 rw [Array.extract_size] at h3
 rw [show d'.extract 0 d.size = d' by rw [← h1, Array.extract_size]] at h3
 exact h3
theorem keep_first {α : Type} [Inhabited α] [DecidableEq α] (d : Array α) : ∀ i, i < d.size → ∃ j, j < d.size ∧ keeps d j = true ∧ d[j]! = d[i]!
 | 0, h => ⟨0, h, by simp [keeps], rfl⟩
 | i + 1, h => by
  by_cases hk : keeps d (i + 1) = true
  · exact ⟨i + 1, h, hk, rfl⟩
  ·
   have e : d[i + 1]! = d[i]! := by simpa [keeps] using hk
   obtain ⟨j, h1, h2, h3⟩ := keep_first d i (by omega)
   exact ⟨j, h1, h2, by rw [h3, e]⟩
theorem compact_asc {α : Type} [Inhabited α] [DecidableEq α] (lt : α → α → Bool) (hO : SWO lt) (hT : ∀ x y, lt x y = false → lt y x = false → x = y) (d : Array α) (hs : SortedIn lt 0 d.size d) :
  (compactUpTo d d.size).Pairwise (fun x y => lt x y = true) ∧ (∀ x, x ∈ compactUpTo d d.size ↔ x ∈ d.toList) ∧ (compactUpTo d d.size).length ≤ d.size := by
 refine ⟨?_, fun x => ?_, ?_⟩
 ·
  unfold compactUpTo
  rw [List.pairwise_map]
  have hr : ((List.range d.size).filter (keeps d)).Pairwise (· < ·) := List.Pairwise.filter _ List.pairwise_lt_range
  refine hr.imp_of_mem fun {i j} hi hj hlt => ?_
  obtain ⟨hj1, hj2⟩ := List.mem_filter.1 hj
  have hjs : j < d.size := List.mem_range.1 hj1
  have hne : d[j]! ≠ d[j - 1]! := by
   have := of_decide_eq_true hj2
   rcases this with h | h
   · omega
   · exact h
  have h1 : lt d[j]! d[j - 1]! = false := hs (j - 1) j (Nat.zero_le _) (by omega) hjs
  have h2 : lt d[j - 1]! d[j]! = true := by
   cases h : lt d[j - 1]! d[j]! with
   | true => rfl
   | false => exact absurd (hT _ _ h1 h) hne
  cases h : lt d[i]! d[j]! with
  | true => rfl
  | false =>
   have h3 : lt d[j - 1]! d[i]! = false := by
    by_cases e : i = j - 1
    · subst e; exact hO.irrefl _
    · exact hs i (j - 1) (Nat.zero_le _) (by omega) (by omega)
   have := hO.ntrans _ _ _ h3 h
   rw [h2] at this
   cases this
 ·
  unfold compactUpTo
  rw [List.mem_map]
  constructor
  ·
   rintro ⟨j, hj, rfl⟩
   have hjs : j < d.size := List.mem_range.1 (List.mem_filter.1 hj).1
   rw [getElem!_pos d j hjs]
   exact Array.getElem_mem_toList hjs
  ·
   intro hx
   obtain ⟨i, hi, rfl⟩ := List.getElem_of_mem hx
   have his : i < d.size := by simpa using hi
   obtain ⟨j, h1, h2, h3⟩ := keep_first d i his
   refine ⟨j, List.mem_filter.2 ⟨List.mem_range.2 h1, h2⟩, ?_⟩
   rw [h3, getElem!_pos d i his]
   simp
 ·
  unfold compactUpTo
  rw [List.length_map]
  exact Nat.le_trans (List.length_filter_le _ _) (by simp)
end Go.Proofs.YtbjmgmmekmfjhaaGreatDoor
namespace Go.Proofs.YtbjmgmmekmfjhaaGreatDoor
open Go.RowKit Go.Sort Go.Lib
theorem ltC (x y : Int) : ltOf cmpI x y = decide (x < y) := by
 unfold ltOf cmpI
 by_cases h1 : x < y
 · simp [h1]
 · by_cases h2 : y < x <;> simp [h1, h2]
theorem swoC : SWO (ltOf cmpI) where
 irrefl x := by rw [ltC]; simp
 trans x y z h1 h2 := by rw [ltC] at *; simp at *; omega
 ntrans x y z h1 h2 := by rw [ltC] at *; simp at *; omega
theorem totC (x y : Int) (h1 : ltOf cmpI x y = false) (h2 : ltOf cmpI y x = false) : x = y := by rw [ltC] at *; simp at *; omega
set_option maxHeartbeats 400000 in
theorem compact_short (xa : Option Addr) (n cap : Nat) (w : World) (h : n < 2) : Calls Tryz.prog 118 #[.slice xa n cap] w fun e w' => e = .returned (.slice xa n cap) ∧ w' = w := by
 go_enter Tryz.func118, Tryz.ntmps118
 have h2 : (n : Int) < 2 := by omega
 go_wp2
 go_ret
 exact ⟨rfl, rfl⟩
theorem grown_lo1 {w w' : World} {B g : Nat} (hg : w.grownBy w' (some g)) (h1 : B ≤ g) (h2 : B ≤ w.heap.size) : Below B w w' :=
 (Below.refl B w).grown hg h2 (fun m hm => by cases hm; exact h1)
set_option maxHeartbeats 1000000 in
theorem rising_int (B cap : Nat) (xa : Option Addr) (l : List Int) (w : World) (hB : B ≤ w.heap.size) (hn : l.length ≤ 1073741824) (hown : w.ownsRow B 3 1 (.slice xa l.length cap) l.length (l.map (Value.int .i64))) :
  Calls Tryz.prog 68 #[.slice xa l.length cap, .func (.func 69) #[] #[]] w fun e w' => ∃ v S, e = .returned v ∧ S.Pairwise (· < ·) ∧ (∀ x, x ∈ S ↔ x ∈ l) ∧ S.length ≤ l.length ∧ DSl w' B v S ∧ Below B w w' := by
 by_cases h0 : l = []
 ·
  subst h0
  have hcon := AnyF.slices_SortFunc_none { Tryz.sortInt with } xa cap (.func (.func 69) #[] #[]) w
  change Calls Tryz.prog 117 _ _ _ at hcon
  have hc2 := compact_short xa 0 cap w (by omega)
  go_enter Tryz.func68, Tryz.ntmps68
  go_wp2_with fail
  refine hcon.mono ?_
  rintro e w1 ⟨rfl, rfl⟩
  go_wp2_with fail
  refine hc2.mono ?_
  rintro e w1 ⟨rfl, rfl⟩
  go_wp2
  go_ret
  exact ⟨_, [], rfl, List.Pairwise.nil, fun _ => Iff.rfl, Nat.le_refl _, .inl ⟨rfl, _, _, rfl⟩, Below.refl _ _⟩
 have hl0 : l.length ≠ 0 := fun q => h0 (List.eq_nil_of_length_eq_zero q)
 rcases hown.2 with ⟨-, q⟩ | ⟨g, cap', cur, e, hg, hblk, h1, h2, h3, h4⟩
 · exact absurd q hl0
 cases e
 have hlt : g < w.heap.size := (Array.getElem?_eq_some_iff.1 hblk).1
 have hH : Holds (Value.int .i64) w g 0 l.toArray := holds_of_blockI hblk (by simpa using h4)
 have eg : ∀ args w, (callFunc 69 args).run Tryz.prog w = .ok (.enter 69 args) w := enters_of Tryz.func69 (by kernel_rfl) rfl
 have hcmp : CmpLays1 Tryz.prog 69 #[] (Value.int .i64) cmpI g 0 l.toArray.size w := fun m os dk _ x y => (compare_any x y _).mono fun _ _ q => ⟨q.1, 0, #[], by rw [q.2, grow_empty]; rfl⟩
 have hcon := Any.slices_SortFunc Tryz.sortInt (Value.int .i64) (fun _ => rfl) cmpI swoC 69 #[] g 0 cap l.toArray w eg hcmp hH hlt (by simp; omega)
 change Calls Tryz.prog 117 _ _ _ at hcon
 rw [show l.toArray.size = l.length by simp] at hcon
 clear hcmp eg hH
 go_enter Tryz.func68, Tryz.ntmps68
 go_wp2_with fail
 refine hcon.mono ?_
 clear hcon
 rintro e w1 ⟨rfl, d', n', os, hp, hsd, rfl⟩
 have hsz : d'.size = l.length := by have := hp.1; simpa using this
 obtain ⟨w1, hw1⟩ : ∃ w1, w1 = sortWorld (Value.int .i64) w g 0 n' d' os := ⟨_, rfl⟩
 have hg1 : w.grownBy w1 (some g) := by rw [hw1]; exact grownBy_sortedI d'
 have hb1 : w1.heap[g]? = some (.cells (putCells (Value.int .i64) 0 d' cur) 3 (0, 0)) := by rw [hw1]; exact heap_sortedI d' hblk
 have hH1 : Holds (Value.int .i64) w1 g 0 d' := by
  have := holds_of_blockI (ss := d'.toList) hb1 (by have := take_putCellsI cur d'.toList (by simp; omega); simpa using this)
  simpa using this
 have hc2 := AnyE.slices_Compact Tryz.compactInt (Value.int .i64) (fun _ => rfl) (EqlAt.intD _ _ .i64) (NeqAt.intD _ _ .i64) 0 Tryz.zeroValue3 g 0 cap d' w1 hH1 (by omega) (by omega)
 change Calls Tryz.prog 118 _ _ _ at hc2
 rw [hsz] at hc2
 obtain ⟨ca, cm, cl⟩ := compact_asc (ltOf cmpI) swoC totC d' (by rw [hsz]; simpa using hsd)
 rw [hsz] at ca cm cl
 obtain ⟨C, hC⟩ : ∃ C, C = compactUpTo d' l.length := ⟨_, rfl⟩
 rw [← hC] at hc2 ca cm cl
 have HM : Hid (∀ x, x ∈ C ↔ x ∈ l) := fun x => (cm x).trans ((perm_mem hp x).trans (by simp))
 have HA : Hid (C.Pairwise (· < ·)) := ca.imp (fun {x y} q => by rw [ltC] at q; exact of_decide_eq_true q)
 have HG1 : Hid (w.grownBy w1 (some g)) := hg1
 rw [← hw1]
 clear hp hsd hH1 ca cm hC hg1 hw1
 go_wp2_with fail
 refine hc2.mono ?_
 clear hc2
 rintro e w2 ⟨rfl, q, hw2⟩
 have hg2 : w1.grownBy w2 (some g) := by
  have := grownBy_sortedI (w := w1) (g := g) (n := q) (os := #[]) (C ++ List.replicate (l.length - C.length) 0).toArray
  rw [grow_empty] at this
  rw [hw2]; exact this
 have hb2 : w2.heap[g]? = some (.cells (putCells (Value.int .i64) 0 (C ++ List.replicate (l.length - C.length) 0).toArray (putCells (Value.int .i64) 0 d' cur)) 3 (0, 0)) := by
  have := heap_sortedI (n := q) (os := #[]) (C ++ List.replicate (l.length - C.length) 0).toArray hb1
  rw [grow_empty] at this
  rw [hw2]; exact this
 have HD : Hid (DSl w2 B (.slice (some ⟨g, 0, none⟩) C.length cap) C ∧ Below B w w2) := by
  have hb := grown_lo1 HG1.out hg hB
  refine ⟨.inr ⟨g, cap, rfl, hg, _, hb2, by simp [putCells]; omega, by omega, fun j hj => ?_⟩, hb.trans (grown_lo1 hg2 hg (Nat.le_trans hB HG1.out.size))⟩
  simp only [putCells, Array.getElem?_mapIdx]
  rw [Array.getElem?_eq_getElem (by omega)]
  simp [show j < C.length + (l.length - C.length) by omega, hj]
 clear hw2 hg2 hb2 hb1 hblk
 go_wp2
 go_ret
 exact ⟨_, C, rfl, HA.out, HM.out, cl, HD.out.1, HD.out.2⟩
end Go.Proofs.YtbjmgmmekmfjhaaGreatDoor
namespace Go.Proofs.YtbjmgmmekmfjhaaGreatDoor
open Go.RowKit
set_option maxHeartbeats 400000 in
theorem iBetween_any (n lo hi : Int) (w : World) :
  Calls Tryz.prog 127 #[.int .i64 n, .int .i64 lo, .int .i64 hi] w fun e w' => e = .returned (.bool (pB (Btw n lo hi))) ∧ w' = w := by
 by_cases h1 : lo ≤ n
 ·
  by_cases h2 : n ≤ hi
  ·
   go_enter Tryz.func127, Tryz.ntmps127
   go_wp2
   go_ret
   exact ⟨ret_bool (pB_yes ⟨h1, h2⟩).symm, rfl⟩
  ·
   go_enter Tryz.func127, Tryz.ntmps127
   go_wp2
   go_ret
   exact ⟨ret_bool (pB_no (fun h => by have a := h.1; have b := h.2; omega)).symm, rfl⟩
 ·
  go_enter Tryz.func127, Tryz.ntmps127
  go_wp2
  go_ret
  exact ⟨ret_bool (pB_no (fun h => by have a := h.1; have b := h.2; omega)).symm, rfl⟩
set_option maxHeartbeats 400000 in
theorem hasFunc_any (a : Option Addr) (n cap : Nat) (i : Int) (w : World) :
  Calls Tryz.prog 160 #[.slice a n cap, .int .i64 i] w fun e w' => e = .returned (.bool (pB (Reg i n))) ∧ w' = w := by
 by_cases h1 : 0 ≤ i
 ·
  by_cases h2 : i < (n : Int)
  ·
   go_enter Tryz.func160, Tryz.ntmps160
   go_wp2
   go_ret
   exact ⟨ret_bool (pB_yes ⟨h1, h2⟩).symm, rfl⟩
  ·
   go_enter Tryz.func160, Tryz.ntmps160
   go_wp2
   go_ret
   exact ⟨ret_bool (pB_no (fun h => by have a := h.1; have b := h.2; omega)).symm, rfl⟩
 ·
  go_enter Tryz.func160, Tryz.ntmps160
  go_wp2
  go_ret
  exact ⟨ret_bool (pB_no (fun h => by have a := h.1; have b := h.2; omega)).symm, rfl⟩
set_option maxHeartbeats 400000 in
theorem hasFOp_any (a : Option Addr) (n cap : Nat) (i : Int) (w : World) :
  Calls Tryz.prog 271 #[.slice a n cap, .int .i64 i] w fun e w' => e = .returned (.bool (pB (Reg i n))) ∧ w' = w := by
 by_cases h1 : 0 ≤ i
 ·
  by_cases h2 : i < (n : Int)
  ·
   go_enter Tryz.func271, Tryz.ntmps271
   go_wp2
   go_ret
   exact ⟨ret_bool (pB_yes ⟨h1, h2⟩).symm, rfl⟩
  ·
   go_enter Tryz.func271, Tryz.ntmps271
   go_wp2
   go_ret
   exact ⟨ret_bool (pB_no (fun h => by have a := h.1; have b := h.2; omega)).symm, rfl⟩
 ·
  go_enter Tryz.func271, Tryz.ntmps271
  go_wp2
  go_ret
  exact ⟨ret_bool (pB_no (fun h => by have a := h.1; have b := h.2; omega)).symm, rfl⟩
set_option maxHeartbeats 400000 in
theorem hasExit_any (a : Option Addr) (n cap : Nat) (i : Int) (w : World) :
  Calls Tryz.prog 123 #[.slice a n cap, .int .i64 i] w fun e w' => e = .returned (.bool (pB (Reg i n))) ∧ w' = w := by
 by_cases h1 : 0 ≤ i
 ·
  by_cases h2 : i < (n : Int)
  ·
   go_enter Tryz.func123, Tryz.ntmps123
   go_wp2
   go_ret
   exact ⟨ret_bool (pB_yes ⟨h1, h2⟩).symm, rfl⟩
  ·
   go_enter Tryz.func123, Tryz.ntmps123
   go_wp2
   go_ret
   exact ⟨ret_bool (pB_no (fun h => by have a := h.1; have b := h.2; omega)).symm, rfl⟩
 ·
  go_enter Tryz.func123, Tryz.ntmps123
  go_wp2
  go_ret
  exact ⟨ret_bool (pB_no (fun h => by have a := h.1; have b := h.2; omega)).symm, rfl⟩
set_option maxHeartbeats 400000 in
theorem hasExRec_any (a : Option Addr) (n cap : Nat) (i : Int) (w : World) :
  Calls Tryz.prog 299 #[.slice a n cap, .int .i64 i] w fun e w' => e = .returned (.bool (pB (Reg i n))) ∧ w' = w := by
 by_cases h1 : 0 ≤ i
 ·
  by_cases h2 : i < (n : Int)
  ·
   go_enter Tryz.func299, Tryz.ntmps299
   go_wp2
   go_ret
   exact ⟨ret_bool (pB_yes ⟨h1, h2⟩).symm, rfl⟩
  ·
   go_enter Tryz.func299, Tryz.ntmps299
   go_wp2
   go_ret
   exact ⟨ret_bool (pB_no (fun h => by have a := h.1; have b := h.2; omega)).symm, rfl⟩
 ·
  go_enter Tryz.func299, Tryz.ntmps299
  go_wp2
  go_ret
  exact ⟨ret_bool (pB_no (fun h => by have a := h.1; have b := h.2; omega)).symm, rfl⟩
set_option maxHeartbeats 400000 in
theorem endOp_any (op : Int) (w : World) :
  Calls Tryz.prog 165 #[.int .i64 op] w fun e w' => e = .returned (.bool (pB (EndOp op))) ∧ w' = w := by
 by_cases h1 : op = 23
 ·
  subst h1
  go_enter Tryz.func165, Tryz.ntmps165
  go_wp2
  go_ret
  exact ⟨ret_bool (pB_yes (.inl rfl)).symm, rfl⟩
 by_cases h2 : op = 26
 ·
  subst h2
  go_enter Tryz.func165, Tryz.ntmps165
  go_wp2
  go_ret
  exact ⟨ret_bool (pB_yes (.inr (.inl rfl))).symm, rfl⟩
 by_cases h3 : op = 27
 ·
  subst h3
  go_enter Tryz.func165, Tryz.ntmps165
  go_wp2
  go_ret
  exact ⟨ret_bool (pB_yes (.inr (.inr rfl))).symm, rfl⟩
 ·
  go_enter Tryz.func165, Tryz.ntmps165
  go_wp2
  go_ret
  exact ⟨ret_bool (pB_no (fun h => h.elim h1 (fun h => h.elim h2 h3))).symm, rfl⟩
set_option maxHeartbeats 400000 in
theorem countV_any (oa ea : Option Addr) (oc ec : Nat) (D : FastD) (w : World) :
  Calls Tryz.prog 321 #[.agg #[], .agg #[.int .i64 D.fn, .int .i64 D.entry, .int .i64 D.vals, .int .i64 D.nums, .slice oa D.ops.length oc, .slice ea D.exits.length ec]] w fun e w' => e = .returned (.int .i64 D.vals) ∧ Below w.heap.size w w' := by
 go_enter Tryz.func321, Tryz.ntmps321
 go_wp2
 go_ret
 exact ⟨rfl, ((Below.refl _ _).alloc (Nat.le_refl _) _).alloc (by simp) _⟩
set_option maxHeartbeats 1000000 in
theorem isInV_any (oa ea : Option Addr) (oc ec : Nat) (D : FastD) (n : Int) (w : World) :
  Calls Tryz.prog 269 #[.int .i64 n, .agg #[.int .i64 D.fn, .int .i64 D.entry, .int .i64 D.vals, .int .i64 D.nums, .slice oa D.ops.length oc, .slice ea D.exits.length ec]] w fun e w' => e = .returned (.bool (pB (Reg n D.vals))) ∧ Below w.heap.size w w' := by
 have m1 : ∀ (v : Value) (W : World), (Go.method 522 362 v "loop.example/g00094/impl.countIn").run Tryz.prog W = .ok (321, v) W := fun _ _ => by kernel_rfl
 have hbA : Below w.heap.size w ((w.alloc (.cells #[.int .i64 D.fn, .int .i64 D.entry, .int .i64 D.vals, .int .i64 D.nums, .slice oa D.ops.length oc, .slice ea D.exits.length ec] 41)).alloc (.cells #[] 362)) := ((Below.refl _ _).alloc (Nat.le_refl _) _).alloc (by simp) _
 by_cases h1 : 0 ≤ n
 ·
  by_cases h2 : n < D.vals
  ·
   go_enter Tryz.func269, Tryz.ntmps269
   go_wp2_with (go_at_call 321; refine (countV_any _ _ _ _ _ _).mono ?_; rintro e w1 ⟨rfl, hb⟩)
   go_ret
   exact ⟨ret_bool (pB_yes ⟨h1, h2⟩).symm, hbA.trans (hb.mono hbA.size)⟩
  ·
   go_enter Tryz.func269, Tryz.ntmps269
   go_wp2_with (go_at_call 321; refine (countV_any _ _ _ _ _ _).mono ?_; rintro e w1 ⟨rfl, hb⟩)
   go_ret
   exact ⟨ret_pB (by simp [Reg]; omega), hbA.trans (hb.mono hbA.size)⟩
 ·
  go_enter Tryz.func269, Tryz.ntmps269
  go_wp2
  go_ret
  exact ⟨ret_bool (pB_no (fun h => by have a := h.1; have b := h.2; omega)).symm, hbA⟩
set_option maxHeartbeats 400000 in
theorem countN_any (oa ea : Option Addr) (oc ec : Nat) (D : FastD) (w : World) :
  Calls Tryz.prog 324 #[.agg #[], .agg #[.int .i64 D.fn, .int .i64 D.entry, .int .i64 D.vals, .int .i64 D.nums, .slice oa D.ops.length oc, .slice ea D.exits.length ec]] w fun e w' => e = .returned (.int .i64 D.nums) ∧ Below w.heap.size w w' := by
 go_enter Tryz.func324, Tryz.ntmps324
 go_wp2
 go_ret
 exact ⟨rfl, ((Below.refl _ _).alloc (Nat.le_refl _) _).alloc (by simp) _⟩
set_option maxHeartbeats 1000000 in
theorem isInN_any (oa ea : Option Addr) (oc ec : Nat) (D : FastD) (n : Int) (w : World) :
  Calls Tryz.prog 270 #[.int .i64 n, .agg #[.int .i64 D.fn, .int .i64 D.entry, .int .i64 D.vals, .int .i64 D.nums, .slice oa D.ops.length oc, .slice ea D.exits.length ec]] w fun e w' => e = .returned (.bool (pB (Reg n D.nums))) ∧ Below w.heap.size w w' := by
 have m1 : ∀ (v : Value) (W : World), (Go.method 522 364 v "loop.example/g00094/impl.countIn").run Tryz.prog W = .ok (324, v) W := fun _ _ => by kernel_rfl
 have hbA : Below w.heap.size w ((w.alloc (.cells #[.int .i64 D.fn, .int .i64 D.entry, .int .i64 D.vals, .int .i64 D.nums, .slice oa D.ops.length oc, .slice ea D.exits.length ec] 41)).alloc (.cells #[] 364)) := ((Below.refl _ _).alloc (Nat.le_refl _) _).alloc (by simp) _
 by_cases h1 : 0 ≤ n
 ·
  by_cases h2 : n < D.nums
  ·
   go_enter Tryz.func270, Tryz.ntmps270
   go_wp2_with (go_at_call 324; refine (countN_any _ _ _ _ _ _).mono ?_; rintro e w1 ⟨rfl, hb⟩)
   go_ret
   exact ⟨ret_bool (pB_yes ⟨h1, h2⟩).symm, hbA.trans (hb.mono hbA.size)⟩
  ·
   go_enter Tryz.func270, Tryz.ntmps270
   go_wp2_with (go_at_call 324; refine (countN_any _ _ _ _ _ _).mono ?_; rintro e w1 ⟨rfl, hb⟩)
   go_ret
   exact ⟨ret_pB (by simp [Reg]; omega), hbA.trans (hb.mono hbA.size)⟩
 ·
  go_enter Tryz.func270, Tryz.ntmps270
  go_wp2
  go_ret
  exact ⟨ret_bool (pB_no (fun h => by have a := h.1; have b := h.2; omega)).symm, hbA⟩
end Go.Proofs.YtbjmgmmekmfjhaaGreatDoor
