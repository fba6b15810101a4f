/-
  Rows of a call's own: a cell written; what they hold, as lists of texts and functions.
  The comparing functions of the laws (eq..) return true where both arguments read as the same data.
  A region that draws its order, walked operation by operation: what reads cells that every operation keeps is taken in the order of the text, by hand.
-/
import Derived.Test.YtjdoljaailokmaaGreatDoorZFQ14
import Derived.Test.YtjdoljaailokmaaGreatDoorZFQ4
import Derived.Deep.QuietTactic
import Derived.BigQuiet
import Derived.Deep.RegionWith
import Derived.Deep.RegionHeld3
namespace Go.Proofs.YtjdoljaailokmaaGreatDoor
open Go.RowKit

theorem own_put {w : World} {base e size n c : Nat} {a : Option Addr} {xs : List Value} (h : w.ownsRow base e size (.slice a n c) n xs) (j : Nat) (hj : j < n * size) :
    ∃ g, a = some ⟨g, 0, none⟩ ∧ base ≤ g ∧ w.frozen? ⟨g, j, none⟩ = false ∧ w.cell? ⟨g, j, none⟩ = xs[j]? ∧ (∃ u, xs[j]? = some u) ∧ (∀ v, (w.setCell ⟨g, j, none⟩ v).ownsRow base e size (.slice a n c) n (xs.set j v)) ∧ ∀ v, Only g w (w.setCell ⟨g, j, none⟩ v) := by
  have hxl := h.1
  rcases h.2 with ⟨-, hn⟩ | ⟨g, cap, cur, hv, hb, hh, hnc, hcm, hs, htake⟩
  · subst hn; simp at hj
  · cases hv
    refine ⟨g, rfl, hb, block_free hh j, ?_, ⟨xs[j]'(by omega), by simp [hxl, hj]⟩, fun v => ?_, fun v => (Only.refl _ _).set _ _⟩
    · rw [block_cell hh, ← htake, List.getElem?_take_of_lt hj, Array.getElem?_toList]
    · refine ⟨by simpa using hxl, .inr ⟨g, c, cur.setIfInBounds j v, rfl, hb, block_set hh v, hnc, hcm, by simpa using hs, ?_⟩⟩
      rw [← htake, Array.toList_setIfInBounds, List.take_set]
theorem Only.keeps {g B : Nat} {ts : List Nat} {w w' : World} {c : Array Value} {t : TypeId} (h : Only g w w') (hg : w.heap[g]? = some (.cells c t (0, 0))) (ht : t ∈ ts) (hB : B ≤ g) : Keeps B ts w w' :=
  ⟨h.os, h.tape, h.output, h.size, fun k o hk ho => by
    by_cases e : k = g
    · subst e
      rw [hg] at hk
      cases hk
      rcases ho with ho | ho
      · omega
      · exact absurd ht ho
    · rw [h.block k (lt_block hk) (by simpa using e)]; exact hk⟩
theorem own_blk {w : World} {base e size n c g : Nat} {a : Option Addr} {xs : List Value} (h : w.ownsRow base e size (.slice a n c) n xs) (ha : a = some ⟨g, 0, none⟩) : ∃ cur, w.heap[g]? = some (.cells cur e (0, 0)) := by
  rcases h.2 with ⟨hv, -⟩ | ⟨g', cap, cur, hv, -, hh, -⟩
  · cases hv; cases ha
  · cases hv; cases ha
    exact ⟨cur, hh⟩
/-- A row is kept where only another block is written. -/
theorem own_other {w w' : World} {base e size n c : Nat} {a : Option Addr} {xs : List Value} {r : Option Nat} (h : w.ownsRow base e size (.slice a n c) n xs) (hg : w.grownBy w' r) (hne : ∀ g, a = some ⟨g, 0, none⟩ → r ≠ some g) : w'.ownsRow base e size (.slice a n c) n xs := by
  refine ⟨h.1, ?_⟩
  rcases h.2 with hn | ⟨g, cap, cur, hv, hb, hh, q⟩
  · exact .inl hn
  · cases hv
    exact .inr ⟨g, c, cur, rfl, hb, by rw [hg.block g (lt_block hh) (fun e => hne g rfl e.symm)]; exact hh, q⟩
theorem fnVals_len {fs : List Fn} {cs : List (Option Addr × Nat)} (h : fs.length = cs.length) : (fnVals fs cs).length = fs.length * 3 := by
  induction fs generalizing cs with
  | nil => rfl
  | cons f fs ih =>
    cases cs with
    | nil => simp at h
    | cons c cs =>
      have := ih (cs := cs) (by simpa using h)
      unfold fnVals at *
      simp only [List.zip_cons_cons, List.flatMap_cons, List.length_append, List.length_cons, List.length_nil, this]
      omega

theorem own_cell {w : World} {base e size n c : Nat} {a : Option Addr} {xs : List Value} (h : w.ownsRow base e size (.slice a n c) n xs) (j : Nat) (hj : j < n * size) : ∃ g, a = some ⟨g, 0, none⟩ ∧ base ≤ g ∧ w.cell? ⟨g, j, none⟩ = xs[j]? := by
  rcases h.2 with ⟨-, hn⟩ | ⟨g, cap, cur, hv, hb, hh, -, -, hs, htake⟩
  · subst hn; simp at hj
  · cases hv
    refine ⟨g, rfl, hb, ?_⟩
    rw [block_cell hh, ← htake, List.getElem?_take_of_lt hj, Array.getElem?_toList]
theorem texts_at {w : World} {base c : Nat} {a : Option Addr} {ts : List ByteArray} (h : w.ownsRow base 9 1 (.slice a ts.length c) ts.length (ts.map .string)) : StrsAt w base a ts := by
  intro i hi
  obtain ⟨g, hg, hb, hc⟩ := own_cell h i (by omega)
  exact ⟨g, 0, hg, hb, by rw [Nat.zero_add, hc]; simp [hi]⟩
theorem codeVals_at (xs : List (Int × Int)) : ∀ i (h : i < xs.length), (codeVals xs)[i * 2]? = some (.int .i64 xs[i].1) ∧ (codeVals xs)[i * 2 + 1]? = some (.int .i64 xs[i].2) := by
  induction xs with
  | nil => intro i h; simp at h
  | cons x xs ih =>
    intro i h
    have e : codeVals (x :: xs) = .int .i64 x.1 :: .int .i64 x.2 :: codeVals xs := by simp [codeVals]
    rw [e]
    cases i with
    | zero => exact ⟨rfl, rfl⟩
    | succ i =>
      have := ih i (by simpa using h)
      rw [show (i + 1) * 2 = i * 2 + 1 + 1 by omega]
      simpa using this
theorem code_at {w : World} {base c : Nat} {a : Option Addr} {xs : List (Int × Int)} (h : w.ownsRow base 44 2 (.slice a xs.length c) xs.length (codeVals xs)) : CodeAt w base a xs := by
  intro i hi
  obtain ⟨g, hg, hb, h1⟩ := own_cell h (i * 2) (by omega)
  obtain ⟨g', hg', -, h2⟩ := own_cell h (i * 2 + 1) (by omega)
  rw [hg] at hg'
  cases hg'
  have hv := codeVals_at xs i hi
  exact ⟨g, 0, hg, hb, by rw [Nat.zero_add, h1, hv.1], by rw [show 0 + i * 2 + 1 = i * 2 + 1 by omega, h2, hv.2]⟩
theorem fnVals_at : ∀ (fs : List Fn) (cs : List (Option Addr × Nat)), fs.length = cs.length → ∀ i (h : i < fs.length) (h' : i < cs.length), (fnVals fs cs)[i * 3]? = some (.int .i64 fs[i].params) ∧ (fnVals fs cs)[i * 3 + 1]? = some (.int .i64 fs[i].locals) ∧ (fnVals fs cs)[i * 3 + 2]? = some (.slice cs[i].1 fs[i].code.length cs[i].2) := by
  intro fs
  induction fs with
  | nil => intro cs _ i h; simp at h
  | cons f fs ih =>
    intro cs hl i h h'
    cases cs with
    | nil => simp at hl
    | cons c cs =>
      have e : fnVals (f :: fs) (c :: cs) = .int .i64 f.params :: .int .i64 f.locals :: .slice c.1 f.code.length c.2 :: fnVals fs cs := by simp [fnVals]
      rw [e]
      cases i with
      | zero => exact ⟨rfl, rfl, rfl⟩
      | succ i =>
        have := ih cs (by simpa using hl) i (by simpa using h) (by simpa using h')
        rw [show (i + 1) * 3 = i * 3 + 1 + 1 + 1 by omega]
        simpa using this
theorem ModOwn.fns {w : World} {base c1 c2 : Nat} {a1 a2 : Option Addr} {ts : List ByteArray} {fs : List Fn} {cs : List (Option Addr × Nat)} (h : ModOwn w base a1 c1 a2 c2 ts fs cs) : FnsAt w base a2 fs := by
  intro i hi
  have hi' : i < cs.length := by rw [← h.codes.len]; exact hi
  have hv := fnVals_at fs cs h.codes.len i hi hi'
  obtain ⟨g, hg, hb, h1⟩ := own_cell h.funcs (i * 3) (by omega)
  obtain ⟨g', hg', -, h2⟩ := own_cell h.funcs (i * 3 + 1) (by omega)
  obtain ⟨g'', hg'', -, h3⟩ := own_cell h.funcs (i * 3 + 2) (by omega)
  rw [hg] at hg' hg''
  cases hg'
  cases hg''
  exact ⟨g, 0, cs[i].1, cs[i].2, hg, hb, by rw [Nat.zero_add, h1, hv.1], by rw [show 0 + i * 3 + 1 = i * 3 + 1 by omega, h2, hv.2.1], by rw [show 0 + i * 3 + 2 = i * 3 + 2 by omega, h3, hv.2.2], code_at (h.codes.own i hi hi')⟩
theorem ModOwn.strs {w : World} {base c1 c2 : Nat} {a1 a2 : Option Addr} {ts : List ByteArray} {fs : List Fn} {cs : List (Option Addr × Nat)} (h : ModOwn w base a1 c1 a2 c2 ts fs cs) : StrsAt w base a1 ts := texts_at h.texts

end Go.Proofs.YtjdoljaailokmaaGreatDoor

namespace Go.Proofs.YtjdoljaailokmaaGreatDoor
open Go.RowKit


set_option maxHeartbeats 400000 in
theorem eqStringS_any (a a2 : Option Addr) (ss : List ByteArray) (cap cap2 : Nat) (w : World) (hn : ss.length ≤ 1048576) (hm : StrsAt w 0 a ss) (hm2 : StrsAt w 0 a2 ss) :
    Calls Tryz.prog 22 #[.slice a ss.length cap, .slice a2 ss.length cap2] w fun e w' => e = .returned (.bool true) ∧ Below w.heap.size w w' := by
  go_enter Tryz.func22, Tryz.ntmps22
  go_wp2
  go_loopw [5] (fun i wr => ∃ (k : Nat), k ≤ ss.length ∧ i = .int .i64 k ∧ Below w.heap.size w wr) (fun i _ => ss.length - (intOf i).toNat)
  case atStart => exact ⟨0, by omega, rfl, Below.refl _ _⟩
  case round =>
    obtain ⟨k, hk, rfl, hb⟩ := hrel
    by_cases hlt : k < ss.length
    · obtain ⟨b, off, rfl, -, c1⟩ := hm k hlt
      obtain ⟨b2, off2, rfl, -, c2⟩ := hm2 k hlt
      have c1' := cell_later hb c1
      have c2' := cell_later hb c2
      clear c1 c2
      go_wp2
      go_quiet (fail)
      go_wp2
      go_roundw
      case rel => exact ⟨k + 1, by omega, by go_num, below_draws hb _⟩
      case measure => simp [intOf]; omega
    · go_wp2
      go_ret
      exact ⟨rfl, hb⟩

set_option maxHeartbeats 400000 in
theorem eqIns_same (o a : Int) (w : World) :
    Calls Tryz.prog 83 #[.agg #[.int .i64 o, .int .i64 a], .agg #[.int .i64 o, .int .i64 a]] w fun e w' => e = .returned (.bool true) ∧ Below w.heap.size w w' := by
  go_enter Tryz.func83, Tryz.ntmps83
  go_wp2
  go_ret
  exact ⟨rfl, ((Below.refl _ _).alloc (Nat.le_refl _) _).alloc (by simp) _⟩

set_option maxHeartbeats 400000 in
theorem eqInsS_any (a a2 : Option Addr) (xs : List (Int × Int)) (cap cap2 : Nat) (w : World) (hn : xs.length ≤ 1048576) (hm : CodeAt w 0 a xs) (hm2 : CodeAt w 0 a2 xs) :
    Calls Tryz.prog 70 #[.slice a xs.length cap, .slice a2 xs.length cap2] w fun e w' => e = .returned (.bool true) ∧ Below w.heap.size w w' := by
  go_enter Tryz.func70, Tryz.ntmps70
  go_wp2
  go_loopw [5] (fun i wr => ∃ (k : Nat), k ≤ xs.length ∧ i = .int .i64 k ∧ Below w.heap.size w wr) (fun i _ => xs.length - (intOf i).toNat)
  case atStart => exact ⟨0, by omega, rfl, Below.refl _ _⟩
  case round =>
    obtain ⟨k, hk, rfl, hb⟩ := hrel
    by_cases hlt : k < xs.length
    · obtain ⟨b, off, rfl, -, c1, d1⟩ := hm k hlt
      obtain ⟨b2, off2, rfl, -, c2, d2⟩ := hm2 k hlt
      have c1' := cell_later hb c1
      have c2' := cell_later hb c2
      have d1' := cell_later hb d1
      have d2' := cell_later hb d2
      clear c1 c2 d1 d2
      go_wp2
      go_region_with (go_at_call 83; refine (eqIns_same _ _ _).mono ?_; rintro e w1 ⟨rfl, hb1⟩)
      all_goals
        go_wp2
        go_roundw
        case rel =>
          refine ⟨k + 1, by omega, by go_num, Below.trans ?_ (hb1.mono ?_)⟩
          · repeat (first | exact hb | apply Below.drew)
          · exact hb.size
        case measure => simp [intOf]; omega
    · go_wp2
      go_ret
      exact ⟨rfl, hb⟩

set_option maxHeartbeats 400000 in
theorem eqFunc_any (p l : Int) (a a2 : Option Addr) (xs : List (Int × Int)) (cap cap2 : Nat) (w : World) (hn : xs.length ≤ 1048576) (hm : CodeAt w 0 a xs) (hm2 : CodeAt w 0 a2 xs) :
    Calls Tryz.prog 47 #[.agg #[.int .i64 p, .int .i64 l, .slice a xs.length cap], .agg #[.int .i64 p, .int .i64 l, .slice a2 xs.length cap2]] w fun e w' => e = .returned (.bool true) ∧ Below w.heap.size w w' := by
  go_enter Tryz.func47, Tryz.ntmps47
  go_wp2_with fail
  have hbA : Below w.heap.size w ((w.alloc (.cells #[.int .i64 p, .int .i64 l, .slice a xs.length cap] 40)).alloc (.cells #[.int .i64 p, .int .i64 l, .slice a2 xs.length cap2] 40)) := ((Below.refl _ _).alloc (Nat.le_refl _) _).alloc (by simp) _
  refine (eqInsS_any a a2 xs cap cap2 _ hn (hm.mono hbA) (hm2.mono hbA)).mono ?_
  rintro e w1 ⟨rfl, hb⟩
  go_wp2
  go_ret
  exact ⟨rfl, hbA.trans (hb.mono (by simp; omega))⟩

set_option maxHeartbeats 400000 in
theorem eqFuncS_any (a a2 : Option Addr) (fs : List Fn) (cap cap2 : Nat) (w : World) (hn : fs.length ≤ 1048576) (hc : ∀ f ∈ fs, f.code.length ≤ 1048576) (hm : FnsAt w 0 a fs) (hm2 : FnsAt w 0 a2 fs) :
    Calls Tryz.prog 23 #[.slice a fs.length cap, .slice a2 fs.length cap2] w fun e w' => e = .returned (.bool true) ∧ Below w.heap.size w w' := by
  go_enter Tryz.func23, Tryz.ntmps23
  go_wp2
  go_loopw [5] (fun i wr => ∃ (k : Nat), k ≤ fs.length ∧ i = .int .i64 k ∧ Below w.heap.size w wr) (fun i _ => fs.length - (intOf i).toNat)
  case atStart => exact ⟨0, by omega, rfl, Below.refl _ _⟩
  case round =>
    obtain ⟨k, hk, rfl, hb⟩ := hrel
    by_cases hlt : k < fs.length
    · obtain ⟨b, off, ca, cc, rfl, -, c1, d1, e1, f1⟩ := hm k hlt
      obtain ⟨b2, off2, ca2, cc2, rfl, -, c2, d2, e2, f2⟩ := hm2 k hlt
      have c1' := cell_later hb c1
      have c2' := cell_later hb c2
      have d1' := cell_later hb d1
      have d2' := cell_later hb d2
      have e1' := cell_later hb e1
      have e2' := cell_later hb e2
      have hck := hc fs[k] (List.getElem_mem hlt)
      clear c1 c2 d1 d2 e1 e2
      go_wp2
      go_region_with (go_at_call 47; refine (eqFunc_any _ _ _ _ _ _ _ _ hck (by exact f1.mono (by repeat (first | exact hb | apply Below.drew))) (by exact f2.mono (by repeat (first | exact hb | apply Below.drew)))).mono ?_; rintro e w1 ⟨rfl, hb1⟩)
      all_goals
        go_wp2
        go_roundw
        case rel =>
          refine ⟨k + 1, by omega, by go_num, Below.trans ?_ (hb1.mono ?_)⟩
          · repeat (first | exact hb | apply Below.drew)
          · exact hb.size
        case measure => simp [intOf]; omega
    · go_wp2
      go_ret
      exact ⟨rfl, hb⟩

set_option maxHeartbeats 400000 in
theorem eqModule_any (a1 a2 : Option Addr) (b1 b2 : Option Addr) (ts : List ByteArray) (fs : List Fn) (c1 c2 d1 d2 : Nat) (w : World) (hs : Small ts fs) (hm : StrsAt w 0 a1 ts) (hm2 : StrsAt w 0 b1 ts) (hf : FnsAt w 0 a2 fs) (hf2 : FnsAt w 0 b2 fs) :
    Calls Tryz.prog 8 #[.agg #[.slice a1 ts.length c1, .slice a2 fs.length c2], .agg #[.slice b1 ts.length d1, .slice b2 fs.length d2]] w fun e w' => e = .returned (.bool true) ∧ Below w.heap.size w w' := by
  go_enter Tryz.func8, Tryz.ntmps8
  go_wp2_with fail
  have hbA : Below w.heap.size w ((w.alloc (.cells #[.slice a1 ts.length c1, .slice a2 fs.length c2] 29)).alloc (.cells #[.slice b1 ts.length d1, .slice b2 fs.length d2] 29)) := ((Below.refl _ _).alloc (Nat.le_refl _) _).alloc (by simp) _
  refine (eqStringS_any a1 b1 ts c1 d1 _ hs.texts (hm.mono hbA) (hm2.mono hbA)).mono ?_
  rintro e w1 ⟨rfl, hb⟩
  have hA := block_kept (block_old (block_new w #[.slice a1 ts.length c1, .slice a2 fs.length c2] 29) (.cells #[.slice b1 ts.length d1, .slice b2 fs.length d2] 29)) hb
  have hB := block_kept (block_new (w.alloc (.cells #[.slice a1 ts.length c1, .slice a2 fs.length c2] 29)) #[.slice b1 ts.length d1, .slice b2 fs.length d2] 29) hb
  simp only [World.size_alloc] at hA hB
  have x1 := block_cell hA
  have x2 := block_cell hB
  have hb1 : Below w.heap.size w w1 := hbA.trans (hb.mono (by simp; omega))
  clear hA hB
  go_wp2_with fail
  refine (eqFuncS_any a2 b2 fs c2 d2 _ hs.funcs hs.code (hf.mono hb1) (hf2.mono hb1)).mono ?_
  rintro e w2 ⟨rfl, hb2⟩
  go_wp2
  go_ret
  exact ⟨rfl, hb1.trans (hb2.mono hb1.size)⟩
end Go.Proofs.YtjdoljaailokmaaGreatDoor

namespace Go.Proofs.YtjdoljaailokmaaGreatDoor
open Go.RowKit

section
variable {P : Program} {ops : Array Oper} {Q : Exit → Act → World → Prop} {md : Region.Mode} {S : World → Prop}
theorem h_take {i : Nat} {oi : Oper} {v : Value} {n : Nat} {listed : Array Bool} {a : Act} {w : World} (hi : ops[i]? = some oi)
    (hs : Region.noSelect ops = true) (hf : Region.free md ops listed i = true) (hr : (Region.ready md ops listed).contains i = true)
    (hQ : ∀ c a w, Q (.panic c) (a.put oi.dst v) w → Q (.panic c) a w) (hw : Region.wanted oi (yielded ops a.tmps) = true)
    (hy : ∀ w, S w → (execOp a.eval oi).run P w = .ok (.value v) w) (hS : S w)
    (h : wpAnyH P md ops Q S n (listed.setIfInBounds i true) (a.put oi.dst v) w) : wpAnyH P md ops Q S (n + 1) listed a w :=
  wpAnyH_take hi hs hf hr hQ (.inl ⟨hw, hy⟩) hS h
theorem h_skip {i : Nat} {oi : Oper} {n : Nat} {listed : Array Bool} {a : Act} {w : World} (hi : ops[i]? = some oi)
    (hs : Region.noSelect ops = true) (hf : Region.free md ops listed i = true) (hr : (Region.ready md ops listed).contains i = true)
    (hQ : ∀ c a w, Q (.panic c) (a.put oi.dst undef) w → Q (.panic c) a w) (hw : Region.wanted oi (yielded ops a.tmps) = false) (hS : S w)
    (h : wpAnyH P md ops Q S n (listed.setIfInBounds i true) (a.put oi.dst undef) w) : wpAnyH P md ops Q S (n + 1) listed a w :=
  wpAnyH_take hi hs hf hr hQ (.inr ⟨hw, rfl⟩) hS h
/-- One alone may come up. -/
theorem h_one {i : Nat} {o : Oper} {n : Nat} {listed : Array Bool} {a : Act} {w : World} (hr : Region.ready md ops listed = [i]) (ho : ops[i]? = some o)
    (h : ∀ K' : Act → World → Prop, Shut (∀ a w', S w' → wpAnyH P md ops Q S n (listed.setIfInBounds i true) a w' → K' a w') → if Region.wanted o (yielded ops a.tmps) = true then Oper.wp P o a w K' Q else K' (a.put o.dst undef) w) :
    wpAnyH P md ops Q S (n + 1) listed a w := by
  refine ⟨fun h0 => (by rw [hr] at h0; cases h0), fun j hj => ?_⟩
  rw [hr] at hj
  obtain rfl := List.mem_singleton.1 hj
  exact wpOp_step ho (fun K' hK => h K' (fun a w hS hW => hK a w ⟨hS, hW⟩))
/-- One of several comes up. -/
theorem h_some {i : Nat} {o : Oper} {n : Nat} {listed : Array Bool} {a : Act} {w : World} (ho : ops[i]? = some o)
    (h : ∀ K' : Act → World → Prop, Shut (∀ a w', S w' → wpAnyH P md ops Q S n (listed.setIfInBounds i true) a w' → K' a w') → if Region.wanted o (yielded ops a.tmps) = true then Oper.wp P o a w K' Q else K' (a.put o.dst undef) w) :
    wpOp P ops Q i (fun a' w' => S w' ∧ wpAnyH P md ops Q S n (listed.setIfInBounds i true) a' w') a w :=
  wpOp_step ho (fun K' hK => h K' (fun a w hS hW => hK a w ⟨hS, hW⟩))
theorem h_begin {id : Nat} {a : Act} {w : World} (S : World → Prop) (hm : P.follows .mixedOrders = true) (h : wpAnyH P .any ops Q S ops.size (Array.replicate ops.size false) a w.drew) : (Code.region id ops true).wp P Q a w :=
  wp_region_held hm h
end
end Go.Proofs.YtjdoljaailokmaaGreatDoor
