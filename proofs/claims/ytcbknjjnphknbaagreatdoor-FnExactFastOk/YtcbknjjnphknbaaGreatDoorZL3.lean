/-
  What flowOf returns: the sets of leaders and heads.
-/
import Derived.Test.YtcbknjjnphknbaaGreatDoorZOQ16
namespace Go.Proofs.YtcbknjjnphknbaaGreatDoor
open Go.RowKit Go.Shelf

attribute [local go_sem] Oper.semAt_some

/-- What one jump adds to the leaders and to the heads. -/
def fstep (st : (Nat × Nat) × (Nat × Nat)) (x : Jp) : (Nat × Nat) × (Nat × Nat) :=
  (if x.op = 17 then bw st.1 x.a else bw (bw st.1 x.a) (x.at' + 1), if x.a ≤ x.at' then bw st.2 x.a else st.2)
def flowB (xs : List Jp) : (Nat × Nat) × (Nat × Nat) := xs.foldl fstep ((1, 0), (0, 0))
theorem flowB_snoc (xs : List Jp) (x : Jp) : flowB (xs ++ [x]) = fstep (flowB xs) x := by simp [flowB]
def fok (st : (Nat × Nat) × (Nat × Nat)) : Prop := bok st.1 ∧ bok st.2
theorem fstep_ok {st : (Nat × Nat) × (Nat × Nat)} (h : fok st) (x : Jp) : fok (fstep st x) := by
  have h1 := bw_ok h.1 x.h2
  refine ⟨?_, ?_⟩
  · show bok (if _ then _ else _)
    split
    · exact h1
    · exact bw_ok h1 x.h1
  · show bok (if _ then _ else _)
    split
    · exact bw_ok h.2 x.h2
    · exact h.2
theorem fold_ok (xs : List Jp) {st : (Nat × Nat) × (Nat × Nat)} (h : fok st) : fok (xs.foldl fstep st) := by
  induction xs generalizing st with
  | nil => exact h
  | cons x xs ih => exact ih (fstep_ok h x)
theorem flowB_ok (xs : List Jp) : fok (flowB xs) := fold_ok xs ⟨⟨by decide, by decide⟩, by decide, by decide⟩
/-- The cells of a flow. -/
def fcells (st : (Nat × Nat) × (Nat × Nat)) : Array Value := #[.int .u64 (st.1.1 : Int), .int .u64 (st.1.2 : Int), .int .u64 (st.2.1 : Int), .int .u64 (st.2.2 : Int)]
def fv (st : (Nat × Nat) × (Nat × Nat)) : Value := .agg (fcells st)

theorem cells_own {β : Type} (B : Nat) (t : TypeId) (f : β → Array Value) : Own (fun s W => W.heap[B]? = some (.cells (f s) t (0, 0))) := fun s X Y row hs hg hrow => by
  refine (hg.block B (Array.getElem?_eq_some_iff.1 hs).1 (fun e' => ?_)).trans hs
  obtain ⟨o, ho, hc⟩ := hrow B e'.symm
  rw [hs] at ho; cases ho; cases hc

theorem with_zero (w : World) : Calls Tryz.prog 90 #[.agg #[.int .u64 0, .int .u64 0], .int .i64 0] w fun e w' => e = .returned (.agg #[.int .u64 1, .int .u64 0]) ∧ Below w.heap.size w w' :=
  with_any (0, 0) 0 w ⟨by decide, by decide⟩ (by decide)

/-- How a round of flowOf stands. -/
structure FlS (w W : World) (n₀ B0 F R Bh Bx : Nat) (op a : Int) (W' : World) (st : (Nat × Nat) × (Nat × Nat)) : Prop where
  fl : W'.heap[F]? = some (.cells (fcells st) 117 (0, 0))
  res : W'.heap[R]? = some (.cells #[.int .u64 0, .int .u64 0, .int .u64 0, .int .u64 0] 117 (0, 0))
  x : W'.heap[Bx]? = some (.cells #[.int .i64 op, .int .i64 a] 135 (0, 0))
  kq : Kq n₀ Bh W W'
  kf : KeepsFrom B0 W W'
  below : Below n₀ w W'

theorem FlS.call {w W W' W'' : World} {n₀ B0 F R Bh Bx : Nat} {op a : Int} {st : (Nat × Nat) × (Nat × Nat)} (h : FlS w W n₀ B0 F R Bh Bx op a W' st) (hn : n₀ ≤ F) (hb : Below W'.heap.size W' W'') : FlS w W n₀ B0 F R Bh Bx op a W'' st := by
  have hm : n₀ ≤ W'.heap.size := Nat.le_trans hn (Nat.le_of_lt (lt_block h.fl))
  exact ⟨block_kept h.fl hb, block_kept h.res hb, block_kept h.x hb, h.kq.trans ⟨hb.mono hm, fun _ ho => block_kept ho hb⟩, h.kf.trans ⟨hb.size, fun _ _ _ hk _ => block_kept hk hb⟩, h.below.trans (hb.mono hm)⟩
theorem set_kq {n₀ Bh F i : Nat} {W : World} {v : Value} (hn : n₀ ≤ F) (hne : Bh ≠ F) : Kq n₀ Bh W (W.setCell ⟨F, i, none⟩ v) :=
  ⟨(Below.refl _ _).setCell (p := ⟨F, i, none⟩) hn _, fun _ ho => (Below.heap_setCell _ _ _ _ hne).trans ho⟩
theorem FlS.lo {w W W' : World} {n₀ B0 F R Bh Bx : Nat} {op a : Int} {st : (Nat × Nat) × (Nat × Nat)} (h : FlS w W n₀ B0 F R Bh Bx op a W' st) (hn : n₀ ≤ F) (h1 : R ≠ F) (h2 : Bh ≠ F) (h3 : Bx ≠ F) (x y : Nat) :
    FlS w W n₀ B0 F R Bh Bx op a ((W'.setCell ⟨F, 0, none⟩ (.int .u64 (x : Int))).setCell ⟨F, 1, none⟩ (.int .u64 (y : Int))) ((x, y), st.2) := by
  refine ⟨?_, ?_, ?_, (h.kq.trans (set_kq hn h2)).trans (set_kq hn h2), (h.kf.trans ((KeepsOthers.setCell _ _ _).from _)).trans ((KeepsOthers.setCell _ _ _).from _), (h.below.setCell (p := ⟨F, 0, none⟩) hn _).setCell (p := ⟨F, 1, none⟩) hn _⟩
  · have := block_set (i := 1) (block_set (i := 0) h.fl (.int .u64 (x : Int))) (.int .u64 (y : Int))
    simpa [fcells] using this
  · rw [Below.heap_setCell _ _ _ _ h1, Below.heap_setCell _ _ _ _ h1]; exact h.res
  · rw [Below.heap_setCell _ _ _ _ h3, Below.heap_setCell _ _ _ _ h3]; exact h.x
theorem FlS.hi {w W W' : World} {n₀ B0 F R Bh Bx : Nat} {op a : Int} {st : (Nat × Nat) × (Nat × Nat)} (h : FlS w W n₀ B0 F R Bh Bx op a W' st) (hn : n₀ ≤ F) (h1 : R ≠ F) (h2 : Bh ≠ F) (h3 : Bx ≠ F) (x y : Nat) :
    FlS w W n₀ B0 F R Bh Bx op a ((W'.setCell ⟨F, 2, none⟩ (.int .u64 (x : Int))).setCell ⟨F, 3, none⟩ (.int .u64 (y : Int))) (st.1, (x, y)) := by
  refine ⟨?_, ?_, ?_, (h.kq.trans (set_kq hn h2)).trans (set_kq hn h2), (h.kf.trans ((KeepsOthers.setCell _ _ _).from _)).trans ((KeepsOthers.setCell _ _ _).from _), (h.below.setCell (p := ⟨F, 2, none⟩) hn _).setCell (p := ⟨F, 3, none⟩) hn _⟩
  · have := block_set (i := 3) (block_set (i := 2) h.fl (.int .u64 (x : Int))) (.int .u64 (y : Int))
    simpa [fcells] using this
  · rw [Below.heap_setCell _ _ _ _ h1, Below.heap_setCell _ _ _ _ h1]; exact h.res
  · rw [Below.heap_setCell _ _ _ _ h3, Below.heap_setCell _ _ _ _ h3]; exact h.x
theorem with_at (x y k : Nat) (w : World) (hs : bok (x, y)) (hk : k < 128) :
    Calls Tryz.prog 90 #[.agg #[.int .u64 (x : Int), .int .u64 (y : Int)], .int .i64 (k : Int)] w fun e w' => ∃ x' y', bw (x, y) k = (x', y') ∧ e = .returned (.agg #[.int .u64 (x' : Int), .int .u64 (y' : Int)]) ∧ Below w.heap.size w w' :=
  (with_any (x, y) k w hs hk).mono fun _ _ ⟨h1, h2⟩ => ⟨_, _, rfl, h1, h2⟩

set_option maxRecDepth 100000 in
set_option maxHeartbeats 2000000 in
theorem flowOf_any (g cap cc : Nat) (ca : Option Addr) (code : List (Int × Int)) (d : List Int) (w : World) (HJ : JOk code) (hd : d.length = code.length) (hcode : CodeAt w 0 ca code) (hH : Ht w g cap d) (h1c : 0 < code.length) :
    Calls Tryz.prog 47 #[.slice ca code.length cc, .slice (some ⟨g, 0, none⟩) code.length code.length] w fun e w' => e = .returned (fv (flowB (jl code d code.length))) ∧ Below w.heap.size w w' := by
  refine (callsIn_wide (n := 4)).1 ?_
  refine callsIn_of_wp_marks Tryz.func47 rfl trivial ?_ rfl
  simp only [Tryz.ntmps47, List.size_toArray, List.length_cons, List.length_nil, Nat.reduceAdd, Nat.reduceSub, Array.replicate_succ, Array.replicate_zero, List.push_toArray, List.append_toArray, List.nil_append, List.cons_append]
  gi_wp2
  refine ⟨trivial, ?_⟩
  refine (callsIn_wide.2 (with_zero _)).mono ?_
  rintro e w1 ⟨rfl, hb1⟩
  gi_wp2
  refine ⟨trivial, ?_⟩
  refine (callsIn_wide.2 (jumps_any _ _ _ _ _ _ _)).mono ?_
  rintro e w2 ⟨rfl, rfl⟩
  gi_wp2
  have hR1 := block_kept (block_new w #[.int .u64 0, .int .u64 0, .int .u64 0, .int .u64 0] 117) hb1
  have hz1 : w.heap.size < w1.heap.size := lt_block hR1
  have hB1 : Below w.heap.size w w1 := ((Below.refl _ _).alloc (Nat.le_refl _) _).trans (hb1.mono (by simp))
  obtain ⟨W0, hW0⟩ : ∃ W0, ((w1.alloc (.cells #[.int .u64 1, .int .u64 0, .int .u64 0, .int .u64 0] 117)).alloc (.cells #[.slice ca code.length cc] 89)).alloc (.cells #[.slice (some ⟨g, 0, none⟩) code.length code.length] 87) = W0 := ⟨_, rfl⟩
  have hsz : W0.heap.size = w1.heap.size + 3 := by rw [← hW0]; simp
  have hB10 : Below w1.heap.size w1 W0 := by rw [← hW0]; exact (((Below.refl _ _).alloc (Nat.le_refl _) _).alloc (by simp) _).alloc (by simp; omega) _
  have hB0 : Below w.heap.size w W0 := hB1.trans (hB10.mono hB1.size)
  have hR0 := block_kept hR1 hB10
  have hF0 : W0.heap[w1.heap.size]? = some (.cells (fcells (flowB [])) 117 (0, 0)) := by rw [← hW0]; exact block_old (block_old (block_new _ _ _) _) _
  have hC0 : W0.heap[w1.heap.size + 1]? = some (.cells #[.slice ca code.length cc] 89 (0, 0)) := by
    have := block_old (block_new (w1.alloc (.cells #[.int .u64 1, .int .u64 0, .int .u64 0, .int .u64 0] 117)) #[.slice ca code.length cc] 89) (.cells #[.slice (some ⟨g, 0, none⟩) code.length code.length] 87)
    rw [hW0, World.size_alloc] at this; exact this
  have hH0 : W0.heap[w1.heap.size + 1 + 1]? = some (.cells #[.slice (some ⟨g, 0, none⟩) code.length code.length] 87 (0, 0)) := by
    have := block_new ((w1.alloc (.cells #[.int .u64 1, .int .u64 0, .int .u64 0, .int .u64 0] 117)).alloc (.cells #[.slice ca code.length cc] 89)) #[.slice (some ⟨g, 0, none⟩) code.length code.length] 87
    rw [hW0, World.size_alloc, World.size_alloc] at this; exact this
  rw [hW0]
  clear hW0 hb1 hR1
  have hclt : ∀ b off, ca = some ⟨b, off, none⟩ → b < w.heap.size := fun b off e => by
    obtain ⟨b', off', e', -, hc, -⟩ := hcode 0 h1c
    rw [e] at e'; cases e'
    exact World.block_lt_of_cell? w _ hc
  refine wpIn_rangeFunc_ownH (α := Jp) rfl (by omega) (gf := 122) (lb := #[.pointer (some ⟨w1.heap.size + 1, 0, none⟩), .pointer (some ⟨w1.heap.size + 1 + 1, 0, none⟩)]) rfl trivial (enters_of Tryz.func122 (by kernel_rfl) rfl)
    (jumps_stops 3 (by omega) (w1.heap.size + 1) (w1.heap.size + 1 + 1) w.heap.size g cap cc ca code d HJ hd W0 ((block_cell hC0 0).trans rfl) (by omega) hH0 (hcode.mono hB0) hclt (hH.mono hB0) hH.lt (by omega)) Kq.trans (Kq.put (by omega) (by omega)) (Below.refl _ _) (fun _ => rfl)
    (fun pre W => (W.heap[w1.heap.size]? = some (.cells (fcells (flowB pre)) 117 (0, 0)) ∧ W.heap[w.heap.size]? = some (.cells #[.int .u64 0, .int .u64 0, .int .u64 0, .int .u64 0] 117 (0, 0))) ∧ Below w.heap.size w W)
    (fun _ _ _ => False)
    (OwnFrom.and (OwnFrom.and (Own.from (cells_own _ _ _) _) (Own.from (cells_own _ _ (fun _ => #[.int .u64 0, .int .u64 0, .int .u64 0, .int .u64 0])) _)) (ownFrom_below (Nat.le_refl _) (by omega)))
    (fun _ _ _ _ _ hs _ _ => hs)
    ⟨⟨hF0, hR0⟩, hB0⟩
    (fun x a' W => ∃ Bx, w1.heap.size < Bx ∧ W.heap[Bx]? = some (.cells #[.int .i64 x.op, .int .i64 (x.a : Int)] 135 (0, 0)) ∧ a' = { tmps := #[.slice ca code.length cc, .slice (some ⟨g, 0, none⟩) code.length code.length, undef, undef, .pointer (some ⟨w.heap.size, 0, none⟩), .pointer (some ⟨w1.heap.size, 0, none⟩), .int .i64 (x.at' : Int), .pointer (some ⟨Bx, 0, none⟩), .agg #[.int .u64 0, .int .u64 0], .agg #[.int .u64 1, .int .u64 0], .agg #[.int .u64 1, .int .u64 0, .int .u64 0, .int .u64 0], .slice ca code.length cc, .slice (some ⟨g, 0, none⟩) code.length code.length, .func (.func 122) #[] #[.pointer (some ⟨w1.heap.size + 1, 0, none⟩), .pointer (some ⟨w1.heap.size + 1 + 1, 0, none⟩)], .int .i64 (x.at' : Int), .agg #[.int .i64 x.op, .int .i64 (x.a : Int)], undef, undef, undef, undef, undef, undef, undef, undef, undef, undef, undef, undef, undef, undef, undef, undef, undef, undef, undef, undef, undef, undef, undef, undef, undef, undef], defers := [] })
    (fun x a' _ X Y row hs hg hr => by obtain ⟨Bx, h1, h2, h3⟩ := hs; exact ⟨Bx, h1, cells_own Bx 135 (fun (_ : Unit) => #[.int .i64 x.op, .int .i64 (x.a : Int)]) () X Y row h2 hg (fun r e => (hr r e).2), h3⟩)
    ?assign ?body ?done ?stop
  case assign =>
    rintro l pre x W K ⟨⟨hF, hR⟩, hB⟩ hK
    simp only [encJ]
    gi_wp2
    exact hK _ _ ((KeepsOthers.alloc _ _).from _) ⟨(Below.refl _ W).alloc hB.size _, fun _ ho => block_old ho _⟩ ⟨⟨block_old hF _, block_old hR _⟩, hB.alloc hB.size _⟩ ⟨W.heap.size, lt_block hF, block_new W _ _, rfl⟩
  case body =>
    rintro l pre x a' W hl - ⟨⟨hF, hR⟩, hB⟩ ⟨Bx, hBx, hX, rfl⟩ -
    clear hl hF0 hR0 hC0 hH0 hB0 hB10 hB1
    obtain ⟨⟨⟨a, b⟩, ⟨c, e⟩⟩, hst⟩ : ∃ st, st = flowB pre := ⟨_, rfl⟩
    have hok := flowB_ok pre
    rw [← hst] at hF hok
    have HST : Hid (flowB (pre ++ [x]) = fstep ((a, b), (c, e)) x) := by show _ = _; rw [flowB_snoc, ← hst]
    clear hst
    have S0 : FlS w W w.heap.size W0.heap.size w1.heap.size w.heap.size (w1.heap.size + 1 + 1) Bx x.op (x.a : Int) W ((a, b), (c, e)) := ⟨hF, hR, hX, ⟨Below.refl _ _, fun _ h => h⟩, KeepsFrom.refl _ _, hB⟩
    have n1 : w.heap.size ≤ w1.heap.size := Nat.le_of_lt hz1
    have n2 : w.heap.size ≠ w1.heap.size := Nat.ne_of_lt hz1
    have n3 : w1.heap.size + 1 + 1 ≠ w1.heap.size := by omega
    have n4 : Bx ≠ w1.heap.size := by omega
    have HN : Hid (w.heap.size ≤ w1.heap.size ∧ w.heap.size ≠ w1.heap.size ∧ w1.heap.size + 1 + 1 ≠ w1.heap.size ∧ Bx ≠ w1.heap.size) := ⟨n1, n2, n3, n4⟩
    clear n1 n2 n3 n4 hF hR hX hB hBx hz1 hsz
    have hx1 := x.h1
    have hx2 := x.h2
    have HX12 : Hid (x.at' + 1 < 128 ∧ x.a < 128) := ⟨hx1, hx2⟩
    clear hx1 hx2
    have c0 := block_cell (show W.heap[w1.heap.size]? = some (.cells #[.int .u64 (a : Int), .int .u64 (b : Int), .int .u64 (c : Int), .int .u64 (e : Int)] 117 (0, 0)) from S0.fl)
    have x0 := block_cell S0.x
    gi_wp2
    refine ⟨trivial, ?_⟩
    refine (CallsIn.inRound l (callsIn_wide.2 (with_at a b x.a _ hok.1 HX12.out.2))).mono ?_
    rintro e2 w2 ⟨a2, b2, hw2, rfl, kb2⟩
    have HW2 : Hid (bw (a, b) x.a = (a2, b2)) := hw2
    have ok2 : bok (a2, b2) := by rw [← hw2]; exact bw_ok hok.1 HX12.out.2
    have S1 := S0.call HN.out.1 kb2
    have S2 := S1.lo HN.out.1 HN.out.2.1 HN.out.2.2.1 HN.out.2.2.2 a2 b2
    clear c0 x0 hw2 kb2 S0
    have c1 := block_cell (show w2.heap[w1.heap.size]? = some (.cells #[.int .u64 (a : Int), .int .u64 (b : Int), .int .u64 (c : Int), .int .u64 (e : Int)] 117 (0, 0)) from S1.fl)
    have f1 := block_free S1.fl
    have x2 := block_cell S2.x
    have c2 := block_cell (show ((w2.setCell ⟨w1.heap.size, 0, none⟩ (.int .u64 (a2 : Int))).setCell ⟨w1.heap.size, 1, none⟩ (.int .u64 (b2 : Int))).heap[w1.heap.size]? = some (.cells #[.int .u64 (a2 : Int), .int .u64 (b2 : Int), .int .u64 (c : Int), .int .u64 (e : Int)] 117 (0, 0)) from S2.fl)
    by_cases hop : x.op = 17
    · have HOP : Hid (x.op = 17) := hop
      by_cases hle : x.a ≤ x.at'
      · have HLE : Hid (x.a ≤ x.at') := hle
        gi_wp2
        refine ⟨trivial, ?_⟩
        refine (CallsIn.inRound l (callsIn_wide.2 (with_at c e x.a _ hok.2 HX12.out.2))).mono ?_
        rintro e9 w9 ⟨c9, d9, hw9, rfl, kb9⟩
        have HW9 : Hid (bw (c, e) x.a = (c9, d9)) := hw9
        have S8 := S2.call HN.out.1 kb9
        have S9 := S8.hi HN.out.1 HN.out.2.1 HN.out.2.2.1 HN.out.2.2.2 c9 d9
        have c8 := block_cell (show w9.heap[w1.heap.size]? = some (.cells #[.int .u64 (a2 : Int), .int .u64 (b2 : Int), .int .u64 (c : Int), .int .u64 (e : Int)] 117 (0, 0)) from S8.fl)
        have f8 := block_free S8.fl
        clear hw9 kb9
        gi_wp2
        refine ⟨S9.kf, S9.kq, ⟨?_, S9.res⟩, S9.below⟩
        rw [HST.out]
        have hfl := S9.fl
        have e9 : fstep ((a, b), (c, e)) x = ((a2, b2), (c9, d9)) := by
          unfold fstep
          rw [if_pos HLE.out, HW9.out, HW2.out, if_pos HOP.out]
        rw [e9]
        exact hfl
      · have HLE : Hid (¬ x.a ≤ x.at') := hle
        gi_wp2
        refine ⟨S2.kf, S2.kq, ⟨?_, S2.res⟩, S2.below⟩
        rw [HST.out]
        have hfl := S2.fl
        have e9 : fstep ((a, b), (c, e)) x = ((a2, b2), (c, e)) := by
          unfold fstep
          rw [if_neg HLE.out, HW2.out, if_pos HOP.out]
        rw [e9]
        exact hfl
    have HOP : Hid (¬ x.op = 17) := hop
    have hop' : (x.op != 17) = true := by simpa using hop
    have hadd : IntKind.i64.wrap ((x.at' : Int) + 1) = (x.at' : Int) + 1 := by rw [IntKind.wrap_i64]; have := HX12.out.1; omega
    gi_wp2
    refine ⟨trivial, ?_⟩
    refine (CallsIn.inRound l (callsIn_wide.2 (with_at a2 b2 (x.at' + 1) _ ok2 HX12.out.1))).mono ?_
    rintro e4 w4 ⟨a4, b4, hw4, rfl, kb4⟩
    have HW4 : Hid (bw (a2, b2) (x.at' + 1) = (a4, b4)) := hw4
    have S3 := S2.call HN.out.1 kb4
    have S4 := S3.lo HN.out.1 HN.out.2.1 HN.out.2.2.1 HN.out.2.2.2 a4 b4
    clear c1 f1 x2 c2 hw4 kb4 S1 S2
    have c1 := block_cell (show w4.heap[w1.heap.size]? = some (.cells #[.int .u64 (a2 : Int), .int .u64 (b2 : Int), .int .u64 (c : Int), .int .u64 (e : Int)] 117 (0, 0)) from S3.fl)
    have f1 := block_free S3.fl
    have x2 := block_cell S4.x
    have c2 := block_cell (show ((w4.setCell ⟨w1.heap.size, 0, none⟩ (.int .u64 (a4 : Int))).setCell ⟨w1.heap.size, 1, none⟩ (.int .u64 (b4 : Int))).heap[w1.heap.size]? = some (.cells #[.int .u64 (a4 : Int), .int .u64 (b4 : Int), .int .u64 (c : Int), .int .u64 (e : Int)] 117 (0, 0)) from S4.fl)
    by_cases hle : x.a ≤ x.at'
    · have HLE : Hid (x.a ≤ x.at') := hle
      gi_wp2
      refine ⟨trivial, ?_⟩
      refine (CallsIn.inRound l (callsIn_wide.2 (with_at c e x.a _ hok.2 HX12.out.2))).mono ?_
      rintro e9 w9 ⟨c9, d9, hw9, rfl, kb9⟩
      have HW9 : Hid (bw (c, e) x.a = (c9, d9)) := hw9
      have S8 := S4.call HN.out.1 kb9
      have S9 := S8.hi HN.out.1 HN.out.2.1 HN.out.2.2.1 HN.out.2.2.2 c9 d9
      have c8 := block_cell (show w9.heap[w1.heap.size]? = some (.cells #[.int .u64 (a4 : Int), .int .u64 (b4 : Int), .int .u64 (c : Int), .int .u64 (e : Int)] 117 (0, 0)) from S8.fl)
      have f8 := block_free S8.fl
      clear hw9 kb9
      gi_wp2
      refine ⟨S9.kf, S9.kq, ⟨?_, S9.res⟩, S9.below⟩
      rw [HST.out]
      have hfl := S9.fl
      have e9 : fstep ((a, b), (c, e)) x = ((a4, b4), (c9, d9)) := by
        unfold fstep
        rw [if_pos HLE.out, HW9.out, HW2.out, if_neg HOP.out, HW4.out]
      rw [e9]
      exact hfl
    · have HLE : Hid (¬ x.a ≤ x.at') := hle
      gi_wp2
      refine ⟨S4.kf, S4.kq, ⟨?_, S4.res⟩, S4.below⟩
      rw [HST.out]
      have hfl := S4.fl
      have e9 : fstep ((a, b), (c, e)) x = ((a4, b4), (c, e)) := by
        unfold fstep
        rw [if_neg HLE.out, HW2.out, if_neg HOP.out, HW4.out]
      rw [e9]
      exact hfl
  case done =>
    rintro D ys W hD rfl ⟨⟨hF, hR⟩, hB⟩ hK
    clear hF0 hR0 hC0 hH0 hB0 hB10 hB1
    obtain ⟨⟨⟨a, b⟩, ⟨c, e⟩⟩, hst⟩ : ∃ st, st = flowB (jl code d code.length) := ⟨_, rfl⟩
    rw [← hst] at hF
    have HE : Hid (((a, b), (c, e)) = flowB (jl code d code.length)) := hst
    clear hst
    have c0 := block_cell (show W.heap[w1.heap.size]? = some (.cells #[.int .u64 (a : Int), .int .u64 (b : Int), .int .u64 (c : Int), .int .u64 (e : Int)] 117 (0, 0)) from hF)
    have r0 := block_cell hR
    have r1 := block_free hR
    have hDn : D ≠ w.heap.size := by omega
    have hRD : ∀ (X : World), X.heap[D]? = some (.deferred (some [])) → ∀ i v, (X.setCell ⟨w.heap.size, i, none⟩ v).heap[D]? = some (.deferred (some [])) := fun X h i v => by rw [Below.heap_setCell _ _ _ _ hDn]; exact h
    have HK4 := hRD _ (hRD _ (hRD _ (hRD _ hK 0 (.int .u64 (a : Int))) 1 (.int .u64 (b : Int))) 2 (.int .u64 (c : Int))) 3 (.int .u64 (e : Int))
    have HR4 := block_set (i := 3) (block_set (i := 2) (block_set (i := 1) (block_set (i := 0) hR (.int .u64 (a : Int))) (.int .u64 (b : Int))) (.int .u64 (c : Int))) (.int .u64 (e : Int))
    have hB4 := (((hB.setCell (p := ⟨w.heap.size, 0, none⟩) (Nat.le_refl _) (.int .u64 (a : Int))).setCell (p := ⟨w.heap.size, 1, none⟩) (Nat.le_refl _) (.int .u64 (b : Int))).setCell (p := ⟨w.heap.size, 2, none⟩) (Nat.le_refl _) (.int .u64 (c : Int))).setCell (p := ⟨w.heap.size, 3, none⟩) (Nat.le_refl _) (.int .u64 (e : Int))
    simp at HR4
    have hwD : w.heap.size ≤ D := by omega
    clear hRD hD
    gi_wp2
    generalize ((((W.setCell ⟨w.heap.size, 0, none⟩ (.int .u64 (a : Int))).setCell ⟨w.heap.size, 1, none⟩ (.int .u64 (b : Int))).setCell ⟨w.heap.size, 2, none⟩ (.int .u64 (c : Int))).setCell ⟨w.heap.size, 3, none⟩ (.int .u64 (e : Int))) = W4 at HK4 HR4 hB4 ⊢
    have rr := block_cell ((World.putObj_heap_other (o := .deferred none) (w := W4) (Ne.symm hDn)).trans HR4)
    refine ⟨by simp, .inl ⟨_, _, rfl, run_takeDeferred HK4, ?_⟩⟩
    refine ⟨.agg #[.int .u64 (a : Int), .int .u64 (b : Int), .int .u64 (c : Int), .int .u64 (e : Int)], by simp [results, Tryz.results47, go_sem, rr], ?_, hB4.trans (belowK_b (w := w) (Nat.le_refl _) W4 D _ _ hwD HK4 rfl rfl)⟩
    rw [← HE.out]
    rfl
  case stop =>
    rintro D c pre W _ _ h _
    exact h.elim
end Go.Proofs.YtcbknjjnphknbaaGreatDoor
