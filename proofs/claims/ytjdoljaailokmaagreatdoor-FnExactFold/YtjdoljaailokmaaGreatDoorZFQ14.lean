/-
  Values: the document's model of sums, differences and products of numbers.
  Modules in memory of a call's own.
-/
import Derived.Test.YtjdoljaailokmaaGreatDoorZE6
import Derived.Test.YtjdoljaailokmaaGreatDoorZFQ5
import Derived.Test.YtjdoljaailokmaaGreatDoorZFQ4
import Derived.Test.YtjdoljaailokmaaGreatDoorZFQ2
import Derived.Deep.AppendLies
import Derived.Deep.RegionHeld3
namespace Go.Proofs.YtjdoljaailokmaaGreatDoor
open Go.RowKit Go.Extern.Stop Go.Stop Go.Extern

theorem block_new_at (w : World) (C : Array Value) (t : TypeId) (g : Nat) (h : w.heap.size = g) : (w.alloc (.cells C t)).heap[g]? = some (.cells C t (0, 0)) := by
  subst h
  exact block_new w C t

set_option maxRecDepth 100000 in
set_option maxHeartbeats 1000000 in
theorem sArith_12 (a b : Int) (w : World) :
    Calls Tryz.prog 16 #[.int .i64 12, .int .i64 a, .int .i64 b] w fun e w' => e = .returned (.tuple #[.int .i64 (ak (rT a b (wrap64 (a - b))) (wrap64 (a - b))), .int .i64 (rT a b (wrap64 (a - b)))]) ∧ w' = w := by
  by_cases ha : num a = true
  · have na : (!num a) = false := by rw [ha]; rfl
    by_cases hb : num b = true
    · have nb : (!num b) = false := by rw [hb]; rfl
      by_cases hr : num (wrap64 (a - b)) = true
      · have nr : (!num (wrap64 (a - b))) = false := by rw [hr]; rfl
        have eT : rT a b (wrap64 (a - b)) = 0 := by simp [rT, ha, hb, hr]
        rw [eT]
        clear eT
        have ex : ak 0 (wrap64 (a - b)) = wrap64 (a - b) := rfl
        rw [ex]
        clear ex
        go_enter Tryz.func16, Tryz.ntmps16
        go_wp2_with fail
        refine (sNum_any _ _).mono ?_
        rintro e w1 ⟨rfl, rfl⟩
        go_wp2_with fail
        refine (sNum_any _ _).mono ?_
        rintro e w1 ⟨rfl, rfl⟩
        go_wp2_with fail
        refine (sNum_any _ _).mono ?_
        rintro e w1 ⟨rfl, rfl⟩
        go_wp2
        go_ret2
        exact ⟨rfl, rfl⟩
      · have hr' : num (wrap64 (a - b)) = false := by simpa using hr
        have nr : (!num (wrap64 (a - b))) = true := by rw [hr']; rfl
        have eT : rT a b (wrap64 (a - b)) = 2 := by simp [rT, hr']
        rw [eT]
        clear eT hr
        have ex : ak 2 (wrap64 (a - b)) = 0 := rfl
        rw [ex]
        clear ex
        go_enter Tryz.func16, Tryz.ntmps16
        go_wp2_with fail
        refine (sNum_any _ _).mono ?_
        rintro e w1 ⟨rfl, rfl⟩
        go_wp2_with fail
        refine (sNum_any _ _).mono ?_
        rintro e w1 ⟨rfl, rfl⟩
        go_wp2_with fail
        refine (sNum_any _ _).mono ?_
        rintro e w1 ⟨rfl, rfl⟩
        go_wp2
        go_ret2
        exact ⟨rfl, rfl⟩
    · have hb' : num b = false := by simpa using hb
      have nb : (!num b) = true := by rw [hb']; rfl
      have eT : rT a b (wrap64 (a - b)) = 2 := by simp [rT, hb']
      rw [eT]
      clear eT hb
      have ex : ak 2 (wrap64 (a - b)) = 0 := rfl
      rw [ex]
      clear ex
      go_enter Tryz.func16, Tryz.ntmps16
      go_wp2_with fail
      refine (sNum_any _ _).mono ?_
      rintro e w1 ⟨rfl, rfl⟩
      go_wp2_with fail
      refine (sNum_any _ _).mono ?_
      rintro e w1 ⟨rfl, rfl⟩
      go_wp2
      go_ret2
      exact ⟨rfl, rfl⟩
  · have ha' : num a = false := by simpa using ha
    have na : (!num a) = true := by rw [ha']; rfl
    have eT : rT a b (wrap64 (a - b)) = 2 := by simp [rT, ha']
    rw [eT]
    clear eT ha
    have ex : ak 2 (wrap64 (a - b)) = 0 := rfl
    rw [ex]
    clear ex
    go_enter Tryz.func16, Tryz.ntmps16
    go_wp2_with fail
    refine (sNum_any _ _).mono ?_
    rintro e w1 ⟨rfl, rfl⟩
    go_wp2
    go_ret2
    exact ⟨rfl, rfl⟩

set_option maxRecDepth 100000 in
set_option maxHeartbeats 1000000 in
theorem sArith_13 (a b : Int) (w : World) :
    Calls Tryz.prog 16 #[.int .i64 13, .int .i64 a, .int .i64 b] w fun e w' => e = .returned (.tuple #[.int .i64 (ak (rT a b (wrap64 (a * b))) (wrap64 (a * b))), .int .i64 (rT a b (wrap64 (a * b)))]) ∧ w' = w := by
  by_cases ha : num a = true
  · have na : (!num a) = false := by rw [ha]; rfl
    by_cases hb : num b = true
    · have nb : (!num b) = false := by rw [hb]; rfl
      by_cases hr : num (wrap64 (a * b)) = true
      · have nr : (!num (wrap64 (a * b))) = false := by rw [hr]; rfl
        have eT : rT a b (wrap64 (a * b)) = 0 := by simp [rT, ha, hb, hr]
        rw [eT]
        clear eT
        have ex : ak 0 (wrap64 (a * b)) = wrap64 (a * b) := rfl
        rw [ex]
        clear ex
        go_enter Tryz.func16, Tryz.ntmps16
        go_wp2_with fail
        refine (sNum_any _ _).mono ?_
        rintro e w1 ⟨rfl, rfl⟩
        go_wp2_with fail
        refine (sNum_any _ _).mono ?_
        rintro e w1 ⟨rfl, rfl⟩
        go_wp2_with fail
        refine (sNum_any _ _).mono ?_
        rintro e w1 ⟨rfl, rfl⟩
        go_wp2
        go_ret2
        exact ⟨rfl, rfl⟩
      · have hr' : num (wrap64 (a * b)) = false := by simpa using hr
        have nr : (!num (wrap64 (a * b))) = true := by rw [hr']; rfl
        have eT : rT a b (wrap64 (a * b)) = 2 := by simp [rT, hr']
        rw [eT]
        clear eT hr
        have ex : ak 2 (wrap64 (a * b)) = 0 := rfl
        rw [ex]
        clear ex
        go_enter Tryz.func16, Tryz.ntmps16
        go_wp2_with fail
        refine (sNum_any _ _).mono ?_
        rintro e w1 ⟨rfl, rfl⟩
        go_wp2_with fail
        refine (sNum_any _ _).mono ?_
        rintro e w1 ⟨rfl, rfl⟩
        go_wp2_with fail
        refine (sNum_any _ _).mono ?_
        rintro e w1 ⟨rfl, rfl⟩
        go_wp2
        go_ret2
        exact ⟨rfl, rfl⟩
    · have hb' : num b = false := by simpa using hb
      have nb : (!num b) = true := by rw [hb']; rfl
      have eT : rT a b (wrap64 (a * b)) = 2 := by simp [rT, hb']
      rw [eT]
      clear eT hb
      have ex : ak 2 (wrap64 (a * b)) = 0 := rfl
      rw [ex]
      clear ex
      go_enter Tryz.func16, Tryz.ntmps16
      go_wp2_with fail
      refine (sNum_any _ _).mono ?_
      rintro e w1 ⟨rfl, rfl⟩
      go_wp2_with fail
      refine (sNum_any _ _).mono ?_
      rintro e w1 ⟨rfl, rfl⟩
      go_wp2
      go_ret2
      exact ⟨rfl, rfl⟩
  · have ha' : num a = false := by simpa using ha
    have na : (!num a) = true := by rw [ha']; rfl
    have eT : rT a b (wrap64 (a * b)) = 2 := by simp [rT, ha']
    rw [eT]
    clear eT ha
    have ex : ak 2 (wrap64 (a * b)) = 0 := rfl
    rw [ex]
    clear ex
    go_enter Tryz.func16, Tryz.ntmps16
    go_wp2_with fail
    refine (sNum_any _ _).mono ?_
    rintro e w1 ⟨rfl, rfl⟩
    go_wp2
    go_ret2
    exact ⟨rfl, rfl⟩

set_option maxRecDepth 100000 in
set_option maxHeartbeats 1000000 in
theorem sArith_11 (a b : Int) (w : World) :
    Calls Tryz.prog 16 #[.int .i64 11, .int .i64 a, .int .i64 b] w fun e w' => e = .returned (.tuple #[.int .i64 (ak (rT a b (wrap64 (a + b))) (wrap64 (a + b))), .int .i64 (rT a b (wrap64 (a + b)))]) ∧ w' = w := by
  by_cases ha : num a = true
  · have na : (!num a) = false := by rw [ha]; rfl
    by_cases hb : num b = true
    · have nb : (!num b) = false := by rw [hb]; rfl
      by_cases hr : num (wrap64 (a + b)) = true
      · have nr : (!num (wrap64 (a + b))) = false := by rw [hr]; rfl
        have eT : rT a b (wrap64 (a + b)) = 0 := by simp [rT, ha, hb, hr]
        rw [eT]
        clear eT
        have ex : ak 0 (wrap64 (a + b)) = wrap64 (a + b) := rfl
        rw [ex]
        clear ex
        go_enter Tryz.func16, Tryz.ntmps16
        go_wp2_with fail
        refine (sNum_any _ _).mono ?_
        rintro e w1 ⟨rfl, rfl⟩
        go_wp2_with fail
        refine (sNum_any _ _).mono ?_
        rintro e w1 ⟨rfl, rfl⟩
        go_wp2_with fail
        refine (sNum_any _ _).mono ?_
        rintro e w1 ⟨rfl, rfl⟩
        go_wp2
        go_ret2
        exact ⟨rfl, rfl⟩
      · have hr' : num (wrap64 (a + b)) = false := by simpa using hr
        have nr : (!num (wrap64 (a + b))) = true := by rw [hr']; rfl
        have eT : rT a b (wrap64 (a + b)) = 2 := by simp [rT, hr']
        rw [eT]
        clear eT hr
        have ex : ak 2 (wrap64 (a + b)) = 0 := rfl
        rw [ex]
        clear ex
        go_enter Tryz.func16, Tryz.ntmps16
        go_wp2_with fail
        refine (sNum_any _ _).mono ?_
        rintro e w1 ⟨rfl, rfl⟩
        go_wp2_with fail
        refine (sNum_any _ _).mono ?_
        rintro e w1 ⟨rfl, rfl⟩
        go_wp2_with fail
        refine (sNum_any _ _).mono ?_
        rintro e w1 ⟨rfl, rfl⟩
        go_wp2
        go_ret2
        exact ⟨rfl, rfl⟩
    · have hb' : num b = false := by simpa using hb
      have nb : (!num b) = true := by rw [hb']; rfl
      have eT : rT a b (wrap64 (a + b)) = 2 := by simp [rT, hb']
      rw [eT]
      clear eT hb
      have ex : ak 2 (wrap64 (a + b)) = 0 := rfl
      rw [ex]
      clear ex
      go_enter Tryz.func16, Tryz.ntmps16
      go_wp2_with fail
      refine (sNum_any _ _).mono ?_
      rintro e w1 ⟨rfl, rfl⟩
      go_wp2_with fail
      refine (sNum_any _ _).mono ?_
      rintro e w1 ⟨rfl, rfl⟩
      go_wp2
      go_ret2
      exact ⟨rfl, rfl⟩
  · have ha' : num a = false := by simpa using ha
    have na : (!num a) = true := by rw [ha']; rfl
    have eT : rT a b (wrap64 (a + b)) = 2 := by simp [rT, ha']
    rw [eT]
    clear eT ha
    have ex : ak 2 (wrap64 (a + b)) = 0 := rfl
    rw [ex]
    clear ex
    go_enter Tryz.func16, Tryz.ntmps16
    go_wp2_with fail
    refine (sNum_any _ _).mono ?_
    rintro e w1 ⟨rfl, rfl⟩
    go_wp2
    go_ret2
    exact ⟨rfl, rfl⟩

end Go.Proofs.YtjdoljaailokmaaGreatDoor

namespace Go.Proofs.YtjdoljaailokmaaGreatDoor
open Go.RowKit

/-- Block R alone may have been written. -/
def Only (R : Nat) (w w' : World) : Prop := w.grownBy w' (some R)
theorem Only.refl (R : Nat) (w : World) : Only R w w := ⟨rfl, rfl, rfl, Nat.le_refl _, fun _ _ _ => rfl⟩
theorem Only.trans {R : Nat} {a b c : World} (h : Only R a b) (k : Only R b c) : Only R a c :=
  ⟨k.os.trans h.os, k.tape.trans h.tape, k.output.trans h.output, Nat.le_trans h.size k.size, fun i hi hr => (k.block i (Nat.lt_of_lt_of_le hi h.size) hr).trans (h.block i hi hr)⟩
theorem Only.draws {R : Nat} {a w : World} (h : Only R a w) (n : Nat) : Only R a (w.drewN n) := ⟨h.os, h.tape, h.output, h.size, h.block⟩
theorem Only.set {R : Nat} {a w : World} (h : Only R a w) (i : Nat) (v : Value) : Only R a (w.setCell ⟨R, i, none⟩ v) :=
  ⟨h.os, h.tape, h.output, by simpa using h.size, fun k hk hr => by rw [Below.heap_setCell _ _ _ _ (by intro e; exact hr (by simp [e]))]; exact h.block k hk hr⟩
theorem Only.below {R B : Nat} {w w' : World} (h : Only R w w') (hB : B ≤ R) (hz : B ≤ w.heap.size) : Below B w w' :=
  ⟨h.os, h.tape, h.output, h.size, fun k hk => h.block k (by omega) (by intro e; simp at e; omega)⟩
theorem Only.drew {R : Nat} {a w : World} (h : Only R a w) : Only R a w.drew := ⟨h.os, h.tape, h.output, h.size, h.block⟩
theorem Only.grown {R e size n : Nat} {a w w' : World} {v : Value} {xs : List Value} (h : Only R a w) (hown : w.ownsRow a.heap.size e size v n xs) (hg : w.grownBy w' v.ownBlock) : Only R a w' :=
  ⟨hg.os.trans h.os, hg.tape.trans h.tape, hg.output.trans h.output, Nat.le_trans h.size hg.size, fun k hk hr => by
    rw [hg.block k (Nat.lt_of_lt_of_le hk h.size) (fun e => by have := (hown.lt k e.symm).1; omega)]
    exact h.block k hk hr⟩
theorem Only.alloc {R : Nat} {a w : World} (h : Only R a w) (o : Obj) : Only R a (w.alloc o) := h.trans (World.grownBy_alloc w o _)
theorem own_only {R e size n base : Nat} {w w' : World} {v : Value} {xs : List Value} (h : w.ownsRow base e size v n xs) (hR : R < base) (ho : Only R w w') : w'.ownsRow base e size v n xs :=
  h.kept ho (Or.inr (fun e => by have := (h.lt R e).1; omega))
theorem Only.blk {R k : Nat} {w w' : World} {o : Obj} (h : Only R w w') (hb : w.heap[k]? = some o) (hk : k ≠ R) : w'.heap[k]? = some o := by
  rw [h.block k (lt_block hb) (by simpa using hk)]; exact hb
theorem Only.setNew {R N : Nat} {a w : World} (h : Only R a w) (hN : a.heap.size ≤ N) (i : Nat) (v : Value) : Only R a (w.setCell ⟨N, i, none⟩ v) :=
  ⟨h.os, h.tape, h.output, by simpa using h.size, fun k hk hr => by rw [Below.heap_setCell _ _ _ _ (by simp; omega)]; exact h.block k hk hr⟩
theorem own_low {w : World} {base base' size n e : Nat} {v : Value} {xs : List Value} (h : w.ownsRow base e size v n xs) (hb : base' ≤ base) : w.ownsRow base' e size v n xs :=
  ⟨h.1, h.2.elim Or.inl (fun ⟨g, cap, cur, hv, hg, r⟩ => Or.inr ⟨g, cap, cur, hv, Nat.le_trans hb hg, r⟩)⟩
/-- The cells of a list of instructions. -/
def codeVals (xs : List (Int × Int)) : List Value := xs.flatMap fun x => [.int .i64 x.1, .int .i64 x.2]
theorem own_keeps {w w' : World} {base e size n B : Nat} {ts : List Nat} {v : Value} {xs : List Value} (h : w.ownsRow base e size v n xs) (hk : Keeps B ts w w') (he : e ∉ ts) : w'.ownsRow base e size v n xs := by
  refine ⟨h.1, ?_⟩
  rcases h.2 with hn | ⟨g, cap, cur, hv, hb, hg, r⟩
  · exact .inl hn
  · exact .inr ⟨g, cap, cur, hv, hb, hk.cell hg he, r⟩
theorem own_lt {w : World} {base e size n c : Nat} {a : Option Addr} {xs : List Value} (h : w.ownsRow base e size (.slice a n c) n xs) {g : Nat} (hg : a = some ⟨g, 0, none⟩) : base ≤ g ∧ g < w.heap.size := h.lt g (by subst hg; rfl)
theorem cell_three_new (w : World) (a b c : Value) (t : TypeId) : ∀ j u, [a, b, c][j]? = some u → (w.alloc (.cells #[a, b, c] t)).cell? ((⟨w.heap.size, 0, none⟩ : Addr).add j) = some u := by
  intro j u h
  rw [Go.WideShapes.add_plain, Nat.zero_add, cell_new]
  match j, h with
  | 0, h => simpa using h
  | 1, h => simpa using h
  | 2, h => simpa using h
/-- The cells of a list of functions; 'cs': where the code of each lies. -/
def fnVals (fs : List Fn) (cs : List (Option Addr × Nat)) : List Value := (fs.zip cs).flatMap fun z => [.int .i64 z.1.params, .int .i64 z.1.locals, .slice z.2.1 z.1.code.length z.2.2]
theorem fnVals_snoc {fs : List Fn} {cs : List (Option Addr × Nat)} (h : fs.length = cs.length) (f : Fn) (c : Option Addr × Nat) : fnVals (fs ++ [f]) (cs ++ [c]) = fnVals fs cs ++ [.int .i64 f.params, .int .i64 f.locals, .slice c.1 f.code.length c.2] := by
  unfold fnVals
  rw [List.zip_append h, List.flatMap_append]
  simp
/-- The code of each function lies in a row of the call's own, each in a block behind those ahead of it. -/
structure CodesOwn (w : World) (base : Nat) (fs : List Fn) (cs : List (Option Addr × Nat)) : Prop where
  len : fs.length = cs.length
  own : ∀ i (h : i < fs.length) (h' : i < cs.length), w.ownsRow base 44 2 (.slice cs[i].1 fs[i].code.length cs[i].2) fs[i].code.length (codeVals fs[i].code)
  order : ∀ i j (hi : i < j) (hj : j < cs.length) (g g' : Nat), cs[i].1 = some ⟨g, 0, none⟩ → cs[j].1 = some ⟨g', 0, none⟩ → g < g'
theorem CodesOwn.nil (w : World) (base : Nat) : CodesOwn w base [] [] := ⟨rfl, fun i h => by simp at h, fun i j _ hj => by simp at hj⟩
theorem CodesOwn.keeps {w w' : World} {base B : Nat} {ts : List Nat} {fs : List Fn} {cs : List (Option Addr × Nat)} (h : CodesOwn w base fs cs) (hk : Keeps B ts w w') (he : 44 ∉ ts) : CodesOwn w' base fs cs :=
  ⟨h.len, fun i hi hi' => own_keeps (h.own i hi hi') hk he, h.order⟩
theorem CodesOwn.below {w w' : World} {base : Nat} {fs : List Fn} {cs : List (Option Addr × Nat)} (h : CodesOwn w base fs cs) (hb : Below w.heap.size w w') : CodesOwn w' base fs cs := h.keeps (B := 0) (ts := []) (Keeps.below hb) (by simp)
theorem CodesOwn.only {w w' : World} {base R : Nat} {fs : List Fn} {cs : List (Option Addr × Nat)} (h : CodesOwn w base fs cs) (hR : R < base) (ho : Only R w w') : CodesOwn w' base fs cs :=
  ⟨h.len, fun i hi hi' => own_only (h.own i hi hi') hR ho, h.order⟩
theorem CodesOwn.snoc {w w' : World} {base : Nat} {fs : List Fn} {cs : List (Option Addr × Nat)} {f : Fn} {a : Option Addr} {c : Nat} (h : CodesOwn w base fs cs) (h' : CodesOwn w' base fs cs) (hb : base ≤ w.heap.size)
    (hf : w'.ownsRow w.heap.size 44 2 (.slice a f.code.length c) f.code.length (codeVals f.code)) : CodesOwn w' base (fs ++ [f]) (cs ++ [(a, c)]) := by
  refine ⟨by simp [h.len], fun i hi hi' => ?_, fun i j hij hj g g' hg hg' => ?_⟩
  · by_cases e : i < fs.length
    · have e' : i < cs.length := by rw [← h.len]; exact e
      simp only [List.getElem_append_left e, List.getElem_append_left e']
      exact h'.own i e e'
    · have e1 : i = fs.length := by simp at hi; omega
      subst e1
      have e2 : (cs ++ [(a, c)])[fs.length]'hi' = (a, c) := by simp [h.len]
      have e3 : (fs ++ [f])[fs.length]'hi = f := by simp
      rw [e2, e3]
      exact own_low hf hb
  · have hjl : j < cs.length + 1 := by simpa using hj
    have ei : i < cs.length := by omega
    rw [List.getElem_append_left ei] at hg
    by_cases e : j < cs.length
    · rw [List.getElem_append_left e] at hg'
      exact h.order i j hij e g g' hg hg'
    · have e1 : j = cs.length := by omega
      subst e1
      have e2 : (cs ++ [(a, c)])[cs.length]'hj = (a, c) := by simp
      rw [e2] at hg'
      have k1 := (own_lt (h.own i (by rw [h.len]; exact ei) ei) hg).2
      have k2 := (own_lt hf hg').1
      omega
/-- A module in memory of the call's own. -/
structure ModOwn (w : World) (base : Nat) (a1 : Option Addr) (c1 : Nat) (a2 : Option Addr) (c2 : Nat) (ts : List ByteArray) (fs : List Fn) (cs : List (Option Addr × Nat)) : Prop where
  texts : w.ownsRow base 9 1 (.slice a1 ts.length c1) ts.length (ts.map .string)
  funcs : w.ownsRow base 40 3 (.slice a2 fs.length c2) fs.length (fnVals fs cs)
  codes : CodesOwn w base fs cs
theorem CodesOwn.set {w : World} {base : Nat} {fs : List Fn} {cs : List (Option Addr × Nat)} (h : CodesOwn w base fs cs) {p : Addr} (hp : p.block < base) (v : Value) : CodesOwn (w.setCell p v) base fs cs :=
  ⟨h.len, fun i hi hi' => ownsRow_setCell_below (h.own i hi hi') hp v, h.order⟩
theorem CodesOwn.low {w : World} {base base' : Nat} {fs : List Fn} {cs : List (Option Addr × Nat)} (h : CodesOwn w base fs cs) (hb : base' ≤ base) : CodesOwn w base' fs cs :=
  ⟨h.len, fun i hi hi' => own_low (h.own i hi hi') hb, h.order⟩
theorem ModOwn.low {w : World} {base base' c1 c2 : Nat} {a1 a2 : Option Addr} {ts : List ByteArray} {fs : List Fn} {cs : List (Option Addr × Nat)} (h : ModOwn w base a1 c1 a2 c2 ts fs cs) (hb : base' ≤ base) : ModOwn w base' a1 c1 a2 c2 ts fs cs :=
  ⟨own_low h.texts hb, own_low h.funcs hb, h.codes.low hb⟩
theorem ModOwn.set {w : World} {base c1 c2 : Nat} {a1 a2 : Option Addr} {ts : List ByteArray} {fs : List Fn} {cs : List (Option Addr × Nat)} (h : ModOwn w base a1 c1 a2 c2 ts fs cs) {p : Addr} (hp : p.block < base) (v : Value) : ModOwn (w.setCell p v) base a1 c1 a2 c2 ts fs cs :=
  ⟨ownsRow_setCell_below h.texts hp v, ownsRow_setCell_below h.funcs hp v, h.codes.set hp v⟩
theorem ModOwn.keeps {w w' : World} {base c1 c2 B : Nat} {l : List Nat} {a1 a2 : Option Addr} {ts : List ByteArray} {fs : List Fn} {cs : List (Option Addr × Nat)} (h : ModOwn w base a1 c1 a2 c2 ts fs cs) (hk : Keeps B l w w') (h9 : 9 ∉ l) (h55 : 40 ∉ l) (h25 : 44 ∉ l) : ModOwn w' base a1 c1 a2 c2 ts fs cs :=
  ⟨own_keeps h.texts hk h9, own_keeps h.funcs hk h55, h.codes.keeps hk h25⟩
theorem ModOwn.below {w w' : World} {base c1 c2 : Nat} {a1 a2 : Option Addr} {ts : List ByteArray} {fs : List Fn} {cs : List (Option Addr × Nat)} (h : ModOwn w base a1 c1 a2 c2 ts fs cs) (hb : Below w.heap.size w w') : ModOwn w' base a1 c1 a2 c2 ts fs cs :=
  h.keeps (B := 0) (l := []) (Keeps.below hb) (by simp) (by simp) (by simp)
theorem ModOwn.only {w w' : World} {base c1 c2 R : Nat} {a1 a2 : Option Addr} {ts : List ByteArray} {fs : List Fn} {cs : List (Option Addr × Nat)} (h : ModOwn w base a1 c1 a2 c2 ts fs cs) (hR : R < base) (ho : Only R w w') : ModOwn w' base a1 c1 a2 c2 ts fs cs :=
  ⟨own_only h.texts hR ho, own_only h.funcs hR ho, h.codes.only hR ho⟩
/-- The module's rows lie in blocks below X. -/
structure ModLt (X : Nat) (a1 a2 : Option Addr) (cs : List (Option Addr × Nat)) : Prop where
  texts : ∀ g, a1 = some ⟨g, 0, none⟩ → g < X
  funcs : ∀ g, a2 = some ⟨g, 0, none⟩ → g < X
  codes : ∀ i (h : i < cs.length) g, cs[i].1 = some ⟨g, 0, none⟩ → g < X
theorem ModOwn.lt {w : World} {base c1 c2 : Nat} {a1 a2 : Option Addr} {ts : List ByteArray} {fs : List Fn} {cs : List (Option Addr × Nat)} (h : ModOwn w base a1 c1 a2 c2 ts fs cs) : ModLt w.heap.size a1 a2 cs :=
  ⟨fun _ hg => (own_lt h.texts hg).2, fun _ hg => (own_lt h.funcs hg).2, fun i hi _ hg => (own_lt (h.codes.own i (by rw [h.codes.len]; exact hi) hi) hg).2⟩
theorem own_far {w w' : World} {base e size n c X : Nat} {a : Option Addr} {xs : List Value} (h : w.ownsRow base e size (.slice a n c) n xs) (hl : ∀ g, a = some ⟨g, 0, none⟩ → g < X) (hb : Below X w w') : w'.ownsRow base e size (.slice a n c) n xs := by
  refine ⟨h.1, ?_⟩
  rcases h.2 with hn | ⟨g, cap, cur, hv, hbg, hg, r⟩
  · exact .inl hn
  · refine .inr ⟨g, cap, cur, hv, hbg, ?_, r⟩
    cases hv
    rw [hb.block g (hl g rfl)]
    exact hg
theorem ModOwn.far {w w' : World} {base c1 c2 X : Nat} {a1 a2 : Option Addr} {ts : List ByteArray} {fs : List Fn} {cs : List (Option Addr × Nat)} (h : ModOwn w base a1 c1 a2 c2 ts fs cs) (hl : ModLt X a1 a2 cs) (hb : Below X w w') : ModOwn w' base a1 c1 a2 c2 ts fs cs :=
  ⟨own_far h.texts hl.texts hb, own_far h.funcs hl.funcs hb, ⟨h.codes.len, fun i hi hi' => own_far (h.codes.own i hi hi') (hl.codes i hi') hb, h.codes.order⟩⟩
theorem CodesOwn.snoc2 {w : World} {base X X' : Nat} {fs : List Fn} {cs : List (Option Addr × Nat)} {f : Fn} {a : Option Addr} {c : Nat} (h : CodesOwn w base fs cs) (hl : ∀ i (h : i < cs.length) g, cs[i].1 = some ⟨g, 0, none⟩ → g < X) (hX : X ≤ X') (hb : base ≤ X')
    (hf : w.ownsRow X' 44 2 (.slice a f.code.length c) f.code.length (codeVals f.code)) : CodesOwn w base (fs ++ [f]) (cs ++ [(a, c)]) := by
  refine ⟨by simp [h.len], fun i hi hi' => ?_, fun i j hij hj g g' hg hg' => ?_⟩
  · by_cases e : i < fs.length
    · have e' : i < cs.length := by rw [← h.len]; exact e
      simp only [List.getElem_append_left e, List.getElem_append_left e']
      exact h.own i e e'
    · have e1 : i = fs.length := by simp at hi; omega
      subst e1
      have e2 : (cs ++ [(a, c)])[fs.length]'hi' = (a, c) := by simp [h.len]
      have e3 : (fs ++ [f])[fs.length]'hi = f := by simp
      rw [e2, e3]
      exact own_low hf hb
  · have hjl : j < cs.length + 1 := by simpa using hj
    have ei : i < cs.length := by omega
    rw [List.getElem_append_left ei] at hg
    by_cases e : j < cs.length
    · rw [List.getElem_append_left e] at hg'
      exact h.order i j hij e g g' hg hg'
    · have e1 : j = cs.length := by omega
      subst e1
      have e2 : (cs ++ [(a, c)])[cs.length]'hj = (a, c) := by simp
      rw [e2] at hg'
      have k1 := hl i ei g hg
      have k2 := (own_lt hf hg').1
      omega
end Go.Proofs.YtjdoljaailokmaaGreatDoor
