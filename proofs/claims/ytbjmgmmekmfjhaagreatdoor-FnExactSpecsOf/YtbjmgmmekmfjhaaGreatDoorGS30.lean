/-
Guesses in order: how they compare; rows of them; what the library's Compact makes of a row; impl.rising.
What the library's Compact makes of a row of guesses, and impl.rising.
-/
import Derived.Test.YtbjmgmmekmfjhaaGreatDoorGS29
import Derived.Test.YtbjmgmmekmfjhaaGreatDoorGS5
import Derived.Lib.SliceRun
import Derived.Shelf.RegionOpen
set_option maxRecDepth 100000
namespace Go.Proofs.YtbjmgmmekmfjhaaGreatDoor
open Go.RowKit Go.Sort Go.Lib
theorem hids {p : Prop} (h : p) : Hid p := h
instance : Inhabited Si := ⟨⟨0, 0, 0, 0⟩⟩
instance : DecidableEq Si := fun a b => decidable_of_iff (a.f = b.f ∧ a.pc = b.pc ∧ a.seen = b.seen ∧ a.target = b.target) si_eq.symm
def SLt (a b : Si) : Prop := a.f < b.f ∨ (a.f = b.f ∧ (a.pc < b.pc ∨ (a.pc = b.pc ∧ (a.target < b.target ∨ (a.target = b.target ∧ a.seen < b.seen)))))
instance (a b : Si) : Decidable (SLt a b) := by unfold SLt; infer_instance
theorem cmpI_neg (x y : Int) (h : x < y) : cmpI x y = -1 := by unfold cmpI; rw [if_pos h]
theorem cmpI_pos (x y : Int) (h : y < x) : cmpI x y = 1 := by unfold cmpI; rw [if_neg (by omega), if_pos h]
theorem cmpI_eq (x y : Int) (h : x = y) : cmpI x y = 0 := by unfold cmpI; rw [if_neg (by omega), if_neg (by omega)]
theorem cmpS_lt (a b : Si) : cmpS a b < 0 ↔ SLt a b := by
 unfold cmpS orI SLt
 rcases Int.lt_trichotomy a.f b.f with h1 | h1 | h1
 · rw [cmpI_neg _ _ h1]; simp; omega
 ·
  rw [cmpI_eq _ _ h1]
  rcases Int.lt_trichotomy a.pc b.pc with h2 | h2 | h2
  · rw [cmpI_neg _ _ h2]; simp; omega
  ·
   rw [cmpI_eq _ _ h2]
   rcases Int.lt_trichotomy a.target b.target with h3 | h3 | h3
   · rw [cmpI_neg _ _ h3]; simp; omega
   ·
    rw [cmpI_eq _ _ h3]
    rcases Int.lt_trichotomy a.seen b.seen with h4 | h4 | h4
    · rw [cmpI_neg _ _ h4]; simp; omega
    · rw [cmpI_eq _ _ h4]; simp; omega
    · rw [cmpI_pos _ _ h4]; simp; omega
   · rw [cmpI_pos _ _ h3]; simp; omega
  · rw [cmpI_pos _ _ h2]; simp; omega
 · rw [cmpI_pos _ _ h1]; simp; omega
theorem ltS (a b : Si) : ltOf cmpS a b = decide (SLt a b) := by
 unfold ltOf
 exact decide_eq_decide.2 (cmpS_lt a b)
theorem swoS : SWO (ltOf cmpS) where
 irrefl x := by rw [ltS]; simp [SLt]
 trans x y z h1 h2 := by
  rw [ltS] at *
  have h1 := of_decide_eq_true h1
  have h2 := of_decide_eq_true h2
  apply decide_eq_true
  unfold SLt at *
  omega
 ntrans x y z h1 h2 := by
  rw [ltS] at *
  have h1 := of_decide_eq_false h1
  have h2 := of_decide_eq_false h2
  apply decide_eq_false
  unfold SLt at *
  omega
theorem totS (x y : Si) (h1 : ltOf cmpS x y = false) (h2 : ltOf cmpS y x = false) : x = y := by
 rw [ltS] at *
 have h1 := of_decide_eq_false h1
 have h2 := of_decide_eq_false h2
 rw [si_eq]
 unfold SLt at *
 omega
def encS (x : Si) : List Value := [.int .i64 x.f, .int .i64 x.pc, .int .i64 x.seen, .int .i64 x.target]
theorem cmpLaysS (blk off size : Nat) (w : World) : CmpLays Tryz.prog 57 #[] encS 4 cmpS blk off size w := fun _ _ _ _ x y => (compareSpecs_g x y _).mono fun _ _ q => ⟨q.1, q.2.form⟩
def St (w : World) (g cap : Nat) (d : Array Si) : Prop := ∃ cur : Array Value, w.heap[g]? = some (Obj.cells cur 97 (0, 0)) ∧ cur.size = cap * 4 ∧ d.size ≤ cap ∧ ∀ j, j < d.size → cur[j * 4]? = some (.int .i64 d[j]!.f) ∧ cur[j * 4 + 1]? = some (.int .i64 d[j]!.pc) ∧ cur[j * 4 + 2]? = some (.int .i64 d[j]!.seen) ∧ cur[j * 4 + 3]? = some (.int .i64 d[j]!.target)
theorem St.mono {w w' : World} {g cap : Nat} {d : Array Si} (h : St w g cap d) (hb : Below w.heap.size w w') : St w' g cap d := by
 obtain ⟨c, h1, h2⟩ := h
 exact ⟨c, block_kept h1 hb, h2⟩
theorem St.lt {w : World} {g cap : Nat} {d : Array Si} (h : St w g cap d) : g < w.heap.size := by
 obtain ⟨c, h1, -⟩ := h
 exact lt_block h1
theorem flat_at (d : Array Si) (t : Nat) (ht : t < d.size * 4) : (flatK encS 4 d)[t]! = (encS d[t / 4]!)[t % 4]! := get_flatK encS 4 d t ht
theorem St.cells {w : World} {g cap : Nat} {d : Array Si} (h : St w g cap d) (t : Nat) (ht : t < d.size * 4) : w.cell? ⟨g, t, none⟩ = some ((flatK encS 4 d)[t]!) := by
 obtain ⟨cur, h1, -, -, h4⟩ := h
 rw [block_cell h1, flat_at d t ht]
 obtain ⟨q0, q1, q2, q3⟩ := h4 (t / 4) (by omega)
 obtain h | h | h | h : t % 4 = 0 ∨ t % 4 = 1 ∨ t % 4 = 2 ∨ t % 4 = 3 := by omega
 ·
  rw [h, show t = t / 4 * 4 by omega, q0]
  rw [show t / 4 * 4 / 4 = t / 4 by omega]; rfl
 ·
  rw [h, show t = t / 4 * 4 + 1 by omega, q1]
  rw [show (t / 4 * 4 + 1) / 4 = t / 4 by omega]; rfl
 ·
  rw [h, show t = t / 4 * 4 + 2 by omega, q2]
  rw [show (t / 4 * 4 + 2) / 4 = t / 4 by omega]; rfl
 ·
  rw [h, show t = t / 4 * 4 + 3 by omega, q3]
  rw [show (t / 4 * 4 + 3) / 4 = t / 4 by omega]; rfl
theorem St.holds {w : World} {g cap : Nat} {d : Array Si} (h : St w g cap d) : HoldsK encS 4 w g 0 d := by
 intro t ht
 have ht' : t < d.size * 4 := by simpa using ht
 rw [Nat.zero_add]
 refine ⟨h.cells t ht', ?_⟩
 obtain ⟨cur, h1, -⟩ := h
 exact block_free h1 t
theorem heap_sorted {α : Type} [Inhabited α] (enc : α → Value) {w : World} {g n : Nat} {os : Array Obj} {cur : Array Value} {e : TypeId} {fr : Nat × Nat} (d : Array α) (hb : w.heap[g]? = some (.cells cur e fr)) :
  (grow (putRow enc (Sort.ahead w n) g 0 d) os).heap[g]? = some (.cells (putCells enc 0 d cur) e fr) := by
 have hg : g < w.heap.size := (Array.getElem?_eq_some_iff.1 hb).1
 rw [heap_grow_old _ _ (by simpa using hg)]
 simp [putRow, mapBlock, Sort.ahead, Array.getElem?_modify, hb, onCells]
theorem grownBy_sorted' {α : Type} [Inhabited α] (enc : α → Value) {w : World} {g n : Nat} {os : Array Obj} (d : Array α) : w.grownBy (grow (putRow enc (Sort.ahead w n) g 0 d) os) (some g) := by
 refine ⟨rfl, rfl, rfl, by simp, fun k hk hne => ?_⟩
 rw [heap_grow_old _ _ (by simpa using hk)]
 have : g ≠ k := fun e => hne (by rw [e])
 simp [putRow, mapBlock, Sort.ahead, Array.getElem?_modify, this]
theorem St.sorted {w : World} {g cap n : Nat} {os : Array Obj} {d d' : Array Si} (h : St w g cap d) (hs : d'.size = d.size) : St (sortWorldK encS 4 w g 0 n d' os) g cap d' := by
 obtain ⟨cur, h1, h2, h3, -⟩ := h
 refine ⟨_, heap_sorted id (flatK encS 4 d') h1, by simp [putCells, h2], by omega, fun j hj => ?_⟩
 have key : ∀ i, i < 4 → (putCells id 0 (flatK encS 4 d') cur)[j * 4 + i]? = some ((encS d'[j]!)[i]!) := fun i hi => by
  simp only [putCells, Array.getElem?_mapIdx]
  rw [Array.getElem?_eq_getElem (by omega)]
  simp only [Option.map_some, size_flatK]
  rw [if_pos ⟨by omega, by omega⟩, Nat.sub_zero, id, flat_at d' _ (by omega), show (j * 4 + i) / 4 = j by omega, show (j * 4 + i) % 4 = i by omega]
 exact ⟨key 0 (by omega), key 1 (by omega), key 2 (by omega), key 3 (by omega)⟩
theorem St.put {w : World} {g cap k : Nat} {d : Array Si} (h : St w g cap d) (hk : k < d.size) (u : Si) :
  St ((((w.setCell ⟨g, k * 4, none⟩ (.int .i64 u.f)).setCell ⟨g, k * 4 + 1, none⟩ (.int .i64 u.pc)).setCell ⟨g, k * 4 + 2, none⟩ (.int .i64 u.seen)).setCell ⟨g, k * 4 + 3, none⟩ (.int .i64 u.target)) g cap (d.setIfInBounds k u) := by
 obtain ⟨cur, h1, h2, h3, h4⟩ := h
 refine ⟨_, block_set (block_set (block_set (block_set h1 _) _) _) _, by simpa using h2, by simpa using h3, fun j hj => ?_⟩
 have hj' : j < d.size := by simpa using hj
 by_cases e : j = k
 ·
  subst e
  rw [getElem!_set_same d j u hj']
  refine ⟨?_, ?_, ?_, ?_⟩
  · rw [set_else _ (by omega), set_else _ (by omega), set_else _ (by omega)]; exact set_self _ (by omega)
  · rw [set_else _ (by omega), set_else _ (by omega)]; exact set_self _ (by simp; omega)
  · rw [set_else _ (by omega)]; exact set_self _ (by simp; omega)
  · exact set_self _ (by simp; omega)
 ·
  rw [getElem!_set_other d k j u e]
  obtain ⟨q0, q1, q2, q3⟩ := h4 j hj'
  refine ⟨?_, ?_, ?_, ?_⟩
  · rw [set_else _ (by omega), set_else _ (by omega), set_else _ (by omega), set_else _ (by omega)]; exact q0
  · rw [set_else _ (by omega), set_else _ (by omega), set_else _ (by omega), set_else _ (by omega)]; exact q1
  · rw [set_else _ (by omega), set_else _ (by omega), set_else _ (by omega), set_else _ (by omega)]; exact q2
  · rw [set_else _ (by omega), set_else _ (by omega), set_else _ (by omega), set_else _ (by omega)]; exact q3
theorem block_sets (g : Nat) : ∀ (vs : List Value) (o : Nat) {w : World} {cur : Array Value} {t : TypeId} {fr : Nat × Nat}, w.heap[g]? = some (.cells cur t fr) → ∃ c2 : Array Value, (w.setCells g o vs).heap[g]? = some (.cells c2 t fr) ∧ c2.size = cur.size ∧ ∀ i, i < o → c2[i]? = cur[i]?
 | [], _, _, cur, _, _, h => ⟨cur, h, rfl, fun _ _ => rfl⟩
 | v :: r, o, w, cur, t, fr, h => by
  obtain ⟨c2, k1, k2, k3⟩ := block_sets g r (o + 1) (block_set (i := o) h v)
  exact ⟨c2, k1, by rw [k2]; simp, fun i hi => by rw [k3 i (by omega), set_else _ (by omega)]⟩
theorem grown_sets (g : Nat) : ∀ (vs : List Value) (o : Nat) (w : World), w.grownBy (w.setCells g o vs) (some g)
 | [], _, w => ⟨rfl, rfl, rfl, Nat.le_refl _, fun _ _ _ => rfl⟩
 | v :: r, o, w => by
  have h := grown_sets g r (o + 1) (w.setCell ⟨g, o, none⟩ v)
  refine ⟨h.os, h.tape, h.output, Nat.le_trans (by simp) h.size, fun k hk hne => ?_⟩
  show ((w.setCell ⟨g, o, none⟩ v).setCells g (o + 1) r).heap[k]? = _
  rw [h.block k (by simpa using hk) hne, Below.heap_setCell _ _ _ _ (fun e => hne (by rw [show k = g from e]))]
theorem grown_set {w : World} {g i : Nat} (v : Value) : w.grownBy (w.setCell ⟨g, i, none⟩ v) (some g) := grown_sets g [v] i w
theorem grown_tr {r : Option Nat} {a b c : World} (h : a.grownBy b r) (k : b.grownBy c r) : a.grownBy c r :=
 ⟨k.os.trans h.os, k.tape.trans h.tape, k.output.trans h.output, Nat.le_trans h.size k.size, fun i hi hr => (k.block i (Nat.lt_of_lt_of_le hi h.size) hr).trans (h.block i hi hr)⟩
theorem grown_bel {r : Option Nat} {w w' : World} (h : Below w.heap.size w w') : w.grownBy w' r := ⟨h.os, h.tape, h.output, h.size, fun k hk _ => h.block k hk⟩
theorem run_clear4 (w : World) (ty : TypeId) (g o n c : Nat) (hn : 0 < n) (hc : ∀ j, j < n * 4 → (w.cell? ⟨g, o + j, none⟩).isSome = true) (hf : ∀ j, w.frozen? ⟨g, j, none⟩ = false) :
  ∃ vs, (Builtin.clear_ #[32] ty #[.slice (some ⟨g, o, none⟩) n c]).run Tryz.prog w = .ok (.tuple #[]) (w.setCells g o vs) := by
 have hz : (Builtin.zeroCells (Value.agg #[.int .i64 0, .int .i64 0, .int .i64 0, .int .i64 0]).cells n).toList.length = n * 4 := by simp [Builtin.zeroCells, Value.cells]
 have h1 : ∀ v ∈ (Builtin.zeroCells (Value.agg #[.int .i64 0, .int .i64 0, .int .i64 0, .int .i64 0]).cells n).toList, v.oneCell' = true := by
  intro v hv
  simp only [Builtin.zeroCells, Value.cells, Array.toList_map, List.mem_map] at hv
  obtain ⟨i, -, rfl⟩ := hv
  obtain h | h | h | h : i % 4 = 0 ∨ i % 4 = 1 ∨ i % 4 = 2 ∨ i % 4 = 3 := by omega
  all_goals simp [h]
  all_goals rfl
 have hst := run_storeCells_cells (P := Tryz.prog) g o _ 0 w (by simpa [hz] using hc) (by intro j _; exact hf _) h1
 simp only [Nat.add_zero] at hst
 obtain ⟨m, rfl⟩ : ∃ m, n = m + 1 := ⟨n - 1, by omega⟩
 have hv : ∀ w, (zeroValue 97).run Tryz.prog w = .ok (.agg #[.int .i64 0, .int .i64 0, .int .i64 0, .int .i64 0]) w := Tryz.zeroValue97
 exact ⟨_, by simp [Builtin.clear_, run_underlying Tryz.underlying32, hv, hst]; rfl⟩
end Go.Proofs.YtbjmgmmekmfjhaaGreatDoor
namespace Go.Proofs.YtbjmgmmekmfjhaaGreatDoor
open Go.RowKit Go.Sort Go.Lib
theorem St.row {w : World} {g cap j : Nat} {d : Array Si} (h : St w g cap d) (hj : j < d.size) : w.cell? ⟨g, j * 4, none⟩ = some (.int .i64 d[j]!.f) ∧ w.cell? ⟨g, j * 4 + 1, none⟩ = some (.int .i64 d[j]!.pc) ∧ w.cell? ⟨g, j * 4 + 2, none⟩ = some (.int .i64 d[j]!.seen) ∧ w.cell? ⟨g, j * 4 + 3, none⟩ = some (.int .i64 d[j]!.target) := by
 obtain ⟨cur, h1, -, -, h4⟩ := h
 obtain ⟨q0, q1, q2, q3⟩ := h4 j hj
 exact ⟨by rw [block_cell h1]; exact q0, by rw [block_cell h1]; exact q1, by rw [block_cell h1]; exact q2, by rw [block_cell h1]; exact q3⟩
theorem St.free {w : World} {g cap : Nat} {d : Array Si} (h : St w g cap d) (j : Nat) : w.frozen? ⟨g, j, none⟩ = false := by
 obtain ⟨c, h1, -⟩ := h
 exact block_free h1 j
set_option maxHeartbeats 4000000 in
theorem compactS_any (g cap : Nat) (d : Array Si) (w : World) (hn : d.size ≤ 1073741824) (hS : St w g cap d) :
  Calls Tryz.prog 106 #[.slice (some ⟨g, 0, none⟩) d.size cap] w fun e w' => e = .returned (.slice (some ⟨g, 0, none⟩) (compactUpTo d d.size).length cap) ∧ St w' g cap (compactUpTo d d.size).toArray ∧ w.grownBy w' (some g) := by
 have same : (∀ j, j < d.size → keeps d j = true) → (compactUpTo d d.size).length = d.size ∧ (compactUpTo d d.size).toArray = d := by
  intro hall
  have e : compactUpTo d d.size = d.toList := by rw [compactUpTo_all d _ hall, range_map_get]
  rw [e]
  exact ⟨by simp, by simp⟩
 have SAME := hids same
 have hdc : d.size ≤ cap := by obtain ⟨c, -, -, h, -⟩ := hS; exact h
 have HS := hids hS
 clear same hS
 have g44 := guard44
 have mixed : Tryz.prog.follows Departure.mixedOrders = true := by kernel_rfl
 by_cases h2 : d.size < 2
 ·
  have h2' : (d.size : Int) < 2 := by omega
  have hall : ∀ j, j < d.size → keeps d j = true := fun j hj => keeps_lt_one d j (by omega)
  obtain ⟨e1, e2⟩ := SAME.out hall
  have HE := hids (And.intro e1 e2)
  clear e1 e2 hall
  go_enter Tryz.func106, Tryz.ntmps106
  go_wp2
  go_ret
  exact ⟨by rw [HE.out.1]; rfl, by rw [HE.out.2]; exact HS.out, grown_bel (Below.refl _ _)⟩
 have h2' : ¬ (d.size : Int) < 2 := by omega
 go_enter Tryz.func106, Tryz.ntmps106
 go_wp2
 go_loopw [3] (fun s3 wr => ∃ k : Nat, 1 ≤ k ∧ k ≤ d.size ∧ s3 = .int .i64 k ∧ Hid (Below w.heap.size w wr) ∧ Hid (∀ j, j < k → keeps d j = true)) (fun i _ => d.size - (intOf i).toNat)
 case atStart => exact ⟨1, Nat.le_refl _, by omega, rfl, Below.refl _ _, keeps_lt_one d⟩
 case round =>
  obtain ⟨k, hk1, hk, rfl, HB, HA⟩ := hrel
  by_cases hlt : k < d.size
  case neg =>
   obtain rfl : k = d.size := by omega
   have z2 : ¬ (d.size : Int) < (d.size : Int) := by omega
   have HE := hids (SAME.out HA.out)
   go_wp2
   go_ret
   exact ⟨by rw [HE.out.1]; rfl, by rw [HE.out.2]; exact HS.out.mono HB.out, grown_bel HB.out⟩
  obtain ⟨p, hp⟩ : ∃ p, k = p + 1 := ⟨k - 1, by omega⟩
  have HP : Hid (k = p + 1) := hp
  have zk : (k : Int) < (d.size : Int) := by omega
  have zk0 : (0 : Int) ≤ (k : Int) := by omega
  obtain ⟨x, hx⟩ : ∃ x, d[k]! = x := ⟨_, rfl⟩
  obtain ⟨y, hy⟩ : ∃ y, d[p]! = y := ⟨_, rfl⟩
  have HXY : Hid (d[k]! = x ∧ d[p]! = y) := ⟨hx, hy⟩
  have r1 := (HS.out.mono HB.out).row (j := k) hlt
  have r0 := (HS.out.mono HB.out).row (j := p) (by omega)
  rw [hx] at r1
  rw [hy] at r0
  obtain ⟨c0, c1, c2, c3⟩ := r1
  obtain ⟨b0, b1, b2, b3⟩ := r0
  have hsub : IntKind.i64.wrap ((k : Int) - 1) = (p : Int) := by rw [IntKind.wrap_i64]; omega
  have zp : (p : Int) < (d.size : Int) := by omega
  have zp0 : (0 : Int) ≤ (p : Int) := by omega
  clear hx hy hp
  have e44 := eqIn44 x y
  by_cases hdup : x = y
  case neg =>
   rw [pB_no hdup] at e44
   have HK : Hid (keeps d k = true) := keeps_pos (by rw [HXY.out.1, show k - 1 = p by have := HP.out; omega, HXY.out.2]; exact hdup)
   clear hdup
   go_wp2_with fail
   go_region_o
   go_wp2
   go_roundw
   case rel =>
    refine ⟨k + 1, by omega, by omega, by go_num, ?_, fun j hj => ?_⟩
    · repeat (first | exact HB.out | apply Below.drew)
    ·
     by_cases e : j = k
     · subst e; exact HK.out
     · exact HA.out j (by omega)
   case measure => simp [intOf]; omega
  rw [pB_yes hdup] at e44
  have HK : Hid (keeps d k = false) := keeps_neg (by omega) (by rw [HXY.out.1, show k - 1 = p by have := HP.out; omega, HXY.out.2]; exact hdup)
  have HI0 : Hid (CompInv d (k + 1) k d) := CompInv.start HA.out HK.out
  have hpc : k < cap := by omega
  have hkd0 : k ≤ d.size := by omega
  clear hdup
  go_wp2_with fail
  go_region_o
  go_wp2
  clear c0 c1 c2 c3 b0 b1 b2 b3 e44
  obtain ⟨wo, hwo⟩ : ∃ wo, wo = wr := ⟨_, rfl⟩
  rw [← hwo]
  rw [← hwo] at HB
  clear hwo
  go_loopw [3, 5] (fun s3 s5 wr => ∃ (kk k2 : Nat) (dk : Array Si), s3 = .int .i64 kk ∧ s5 = .int .i64 k2 ∧ 1 ≤ k2 ∧ k + k2 ≤ d.size ∧ Hid (CompInv d (k + k2) kk dk) ∧ Hid (St wr g cap dk) ∧ Hid (w.grownBy wr (some g))) (fun _ i _ => d.size - (intOf i).toNat)
  case atStart =>
   refine ⟨k, 1, d, rfl, rfl, by omega, by omega, HI0, ?_, ?_⟩
   · exact HS.out.mono (by repeat (first | exact HB.out | apply Below.drew))
   · exact grown_bel (by repeat (first | exact HB.out | apply Below.drew))
  case round =>
   obtain ⟨kk, k2, dk, rfl, rfl, h1, hle, HI, HT, HG⟩ := hrel
   clear HI0 HB HA HK HXY HP
   have hkk := HI.out.lt
   have hds := HI.out.size
   by_cases hlt2 : k + k2 < d.size
   case neg =>
    have hend : k + k2 = d.size := by omega
    have z2 : ¬ (k2 : Int) < ((d.size - k : Nat) : Int) := by omega
    obtain ⟨vs, hcl⟩ := run_clear4 wr 0 g (kk * 4) (d.size - kk) (cap - kk) (by omega) (fun j hj => by
     rw [HT.out.cells (kk * 4 + j) (by rw [hds]; omega)]; rfl) HT.out.free
    have hcl' : ∀ ty, (Builtin.clear_ #[32] ty #[.slice (some ⟨g, kk * 4, none⟩) (d.size - kk) (cap - kk)]).run Tryz.prog wr = .ok (.tuple #[]) (wr.setCells g (kk * 4) vs) := fun ty => hcl
    have HR : Hid ((compactUpTo d d.size).length = kk) := by have := HI.out.len; rwa [hend] at this
    have HR2 : Hid (St (wr.setCells g (kk * 4) vs) g cap (compactUpTo d d.size).toArray ∧ w.grownBy (wr.setCells g (kk * 4) vs) (some g)) := by
     refine ⟨?_, grown_tr HG.out (grown_sets g vs _ _)⟩
     obtain ⟨cur, q1, q2, q3, q4⟩ := HT.out
     obtain ⟨c2, k1, k2', k3⟩ := block_sets g vs (kk * 4) q1
     refine ⟨c2, k1, by omega, by simp [HR.out]; omega, fun j hj => ?_⟩
     have hj' : j < kk := by simpa [HR.out] using hj
     have hlow := HI.out.low j hj'
     rw [hend] at hlow
     have ej : (compactUpTo d d.size).toArray[j]! = dk[j]! := by
      rw [getElem!_pos _ j hj]
      have : (compactUpTo d d.size)[j]'(by rw [HR.out]; exact hj') = dk[j]! := by
       rw [List.getElem?_eq_getElem (by rw [HR.out]; exact hj')] at hlow
       exact Option.some.inj hlow
      simpa using this
     rw [ej]
     obtain ⟨d0, d1, d2, d3⟩ := q4 j (by omega)
     exact ⟨by rw [k3 _ (by omega)]; exact d0, by rw [k3 _ (by omega)]; exact d1, by rw [k3 _ (by omega)]; exact d2, by rw [k3 _ (by omega)]; exact d3⟩
    have hkc : kk < cap := by omega
    have hkd : kk ≤ d.size := by omega
    clear hcl HT HG HI
    go_wp2
    go_ret
    exact ⟨by rw [HR.out]; rfl, HR2.out.1, HR2.out.2⟩
   have zk2 : (k2 : Int) < ((d.size - k : Nat) : Int) := by omega
   obtain ⟨r, hr⟩ : ∃ r, k2 = r + 1 := ⟨k2 - 1, by omega⟩
   have HR : Hid (k2 = r + 1) := hr
   obtain ⟨x, hx⟩ : ∃ x, d[k + k2]! = x := ⟨_, rfl⟩
   obtain ⟨y, hy⟩ : ∃ y, d[k + r]! = y := ⟨_, rfl⟩
   have HXY : Hid (d[k + k2]! = x ∧ d[k + r]! = y) := ⟨hx, hy⟩
   have r1 := HT.out.row (j := k + k2) (by omega)
   have r0 := HT.out.row (j := k + r) (by omega)
   rw [HI.out.high _ (by omega), hx, show (k + k2) * 4 = k * 4 + k2 * 4 by omega] at r1
   rw [HI.out.high _ (by omega), hy, show (k + r) * 4 = k * 4 + r * 4 by omega] at r0
   obtain ⟨c0, c1, c2, c3⟩ := r1
   obtain ⟨b0, b1, b2, b3⟩ := r0
   have hsub : IntKind.i64.wrap ((k2 : Int) - 1) = (r : Int) := by rw [IntKind.wrap_i64]; omega
   have zr0 : (0 : Int) ≤ (r : Int) := by omega
   have zk20 : (0 : Int) ≤ (k2 : Int) := by omega
   have zr : (r : Int) < ((d.size - k : Nat) : Int) := by omega
   clear hx hy hr
   have e44 := eqIn44 x y
   obtain ⟨wo2, hwo⟩ : ∃ wo2, wo2 = wr := ⟨_, rfl⟩
   rw [← hwo]
   rw [← hwo] at HT HG c0 c1 c2 c3 b0 b1 b2 b3
   clear hwo
   by_cases hdup : x = y
   case pos =>
    rw [pB_yes hdup] at e44
    have HI2 : Hid (CompInv d (k + (k2 + 1)) kk dk) := HI.out.skip (keeps_neg (by omega) (by rw [HXY.out.1, show k + k2 - 1 = k + r by have := HR.out; omega, HXY.out.2]; exact hdup))
    clear hdup
    go_wp2_with fail
    go_region_o
    go_wp2
    go_roundw
    case rel =>
     refine ⟨kk, k2 + 1, dk, rfl, by go_num, by omega, by omega, HI2, ?_, ?_⟩
     · exact HT.out.mono (by repeat (first | exact Below.refl _ _ | apply Below.drew))
     · exact grown_tr HG.out (grown_bel (by repeat (first | exact Below.refl _ _ | apply Below.drew)))
    case measure => simp [intOf]; omega
   rw [pB_no hdup] at e44
   have HI2 : Hid (CompInv d (k + (k2 + 1)) (kk + 1) (dk.setIfInBounds kk x)) := by
    have := HI.out.keep hlt2 (keeps_pos (by rw [HXY.out.1, show k + k2 - 1 = k + r by have := HR.out; omega, HXY.out.2]; exact hdup))
    rw [HXY.out.1] at this
    exact this
   have ck := HT.out.row (j := kk) (by omega)
   obtain ⟨k0, k1, k2', k3⟩ := ck
   have hfr := HT.out.free
   have zkk : (kk : Int) < (d.size : Int) := by omega
   clear hdup
   go_wp2_with fail
   go_region_o
   go_wp2
   go_roundw
   case rel =>
    refine ⟨kk + 1, k2 + 1, dk.setIfInBounds kk x, by go_num, by go_num, by omega, by omega, HI2, ?_, ?_⟩
    · exact (HT.out.mono (by repeat (first | exact Below.refl _ _ | apply Below.drew))).put (by omega) x
    · exact grown_tr (grown_tr (grown_tr (grown_tr (grown_tr HG.out (grown_bel (w' := wo2.drew) (Below.refl _ _).drew)) (grown_set _)) (grown_set _)) (grown_set _)) (grown_set _)
   case measure => simp [intOf]; omega
end Go.Proofs.YtbjmgmmekmfjhaaGreatDoor
