/-
  The comparing functions of the laws (eq..) return true where both arguments read as the same data.
  A region that draws its order, walked operation by operation: what reads cells that every operation keeps is taken in the order of the text, by hand.
-/
import Derived.Test.YtffeejkghmpkkaaRW1
import Derived.Deep.QuietTactic
import Derived.BigQuiet
import Derived.Deep.RegionWith
import Derived.Deep.RegionHeld3
namespace Go.Proofs.Ytffeejkghmpkkaa
open Go.RowKit


set_option maxHeartbeats 400000 in
theorem eqStringS_any (a a2 : Option Addr) (ss : List ByteArray) (cap cap2 : Nat) (w : World) (hn : ss.length ≤ 1048576) (hm : StrsAt w 0 a ss) (hm2 : StrsAt w 0 a2 ss) :
    Calls Try.prog 24 #[.slice a ss.length cap, .slice a2 ss.length cap2] w fun e w' => e = .returned (.bool true) ∧ Below w.heap.size w w' := by
  go_enter Try.func24, Try.ntmps24
  go_wp2
  go_loopw [5] (fun i wr => ∃ (k : Nat), k ≤ ss.length ∧ i = .int .i64 k ∧ Below w.heap.size w wr) (fun i _ => ss.length - (intOf i).toNat)
  case atStart => exact ⟨0, by omega, rfl, Below.refl _ _⟩
  case round =>
    obtain ⟨k, hk, rfl, hb⟩ := hrel
    by_cases hlt : k < ss.length
    · obtain ⟨b, off, rfl, -, c1⟩ := hm k hlt
      obtain ⟨b2, off2, rfl, -, c2⟩ := hm2 k hlt
      have c1' := cell_later hb c1
      have c2' := cell_later hb c2
      clear c1 c2
      go_wp2
      go_quiet (fail)
      go_wp2
      go_roundw
      case rel => exact ⟨k + 1, by omega, by go_num, below_draws hb _⟩
      case measure => simp [intOf]; omega
    · go_wp2
      go_ret
      exact ⟨rfl, hb⟩

set_option maxHeartbeats 400000 in
theorem eqIns_same (o a : Int) (w : World) :
    Calls Try.prog 72 #[.agg #[.int .i64 o, .int .i64 a], .agg #[.int .i64 o, .int .i64 a]] w fun e w' => e = .returned (.bool true) ∧ Below w.heap.size w w' := by
  go_enter Try.func72, Try.ntmps72
  go_wp2
  go_ret
  exact ⟨rfl, ((Below.refl _ _).alloc (Nat.le_refl _) _).alloc (by simp) _⟩

set_option maxHeartbeats 400000 in
theorem eqInsS_any (a a2 : Option Addr) (xs : List (Int × Int)) (cap cap2 : Nat) (w : World) (hn : xs.length ≤ 1048576) (hm : CodeAt w 0 a xs) (hm2 : CodeAt w 0 a2 xs) :
    Calls Try.prog 63 #[.slice a xs.length cap, .slice a2 xs.length cap2] w fun e w' => e = .returned (.bool true) ∧ Below w.heap.size w w' := by
  go_enter Try.func63, Try.ntmps63
  go_wp2
  go_loopw [5] (fun i wr => ∃ (k : Nat), k ≤ xs.length ∧ i = .int .i64 k ∧ Below w.heap.size w wr) (fun i _ => xs.length - (intOf i).toNat)
  case atStart => exact ⟨0, by omega, rfl, Below.refl _ _⟩
  case round =>
    obtain ⟨k, hk, rfl, hb⟩ := hrel
    by_cases hlt : k < xs.length
    · obtain ⟨b, off, rfl, -, c1, d1⟩ := hm k hlt
      obtain ⟨b2, off2, rfl, -, c2, d2⟩ := hm2 k hlt
      have c1' := cell_later hb c1
      have c2' := cell_later hb c2
      have d1' := cell_later hb d1
      have d2' := cell_later hb d2
      clear c1 c2 d1 d2
      go_wp2
      go_region_with (go_at_call 72; refine (eqIns_same _ _ _).mono ?_; rintro e w1 ⟨rfl, hb1⟩)
      all_goals
        go_wp2
        go_roundw
        case rel =>
          refine ⟨k + 1, by omega, by go_num, Below.trans ?_ (hb1.mono ?_)⟩
          · repeat (first | exact hb | apply Below.drew)
          · exact hb.size
        case measure => simp [intOf]; omega
    · go_wp2
      go_ret
      exact ⟨rfl, hb⟩

set_option maxHeartbeats 400000 in
theorem eqFunc_any (p l : Int) (a a2 : Option Addr) (xs : List (Int × Int)) (cap cap2 : Nat) (w : World) (hn : xs.length ≤ 1048576) (hm : CodeAt w 0 a xs) (hm2 : CodeAt w 0 a2 xs) :
    Calls Try.prog 45 #[.agg #[.int .i64 p, .int .i64 l, .slice a xs.length cap], .agg #[.int .i64 p, .int .i64 l, .slice a2 xs.length cap2]] w fun e w' => e = .returned (.bool true) ∧ Below w.heap.size w w' := by
  go_enter Try.func45, Try.ntmps45
  go_wp2_with fail
  have hbA : Below w.heap.size w ((w.alloc (.cells #[.int .i64 p, .int .i64 l, .slice a xs.length cap] 44)).alloc (.cells #[.int .i64 p, .int .i64 l, .slice a2 xs.length cap2] 44)) := ((Below.refl _ _).alloc (Nat.le_refl _) _).alloc (by simp) _
  refine (eqInsS_any a a2 xs cap cap2 _ hn (hm.mono hbA) (hm2.mono hbA)).mono ?_
  rintro e w1 ⟨rfl, hb⟩
  go_wp2
  go_ret
  exact ⟨rfl, hbA.trans (hb.mono (by simp; omega))⟩

set_option maxHeartbeats 400000 in
theorem eqFuncS_any (a a2 : Option Addr) (fs : List Fn) (cap cap2 : Nat) (w : World) (hn : fs.length ≤ 1048576) (hc : ∀ f ∈ fs, f.code.length ≤ 1048576) (hm : FnsAt w 0 a fs) (hm2 : FnsAt w 0 a2 fs) :
    Calls Try.prog 25 #[.slice a fs.length cap, .slice a2 fs.length cap2] w fun e w' => e = .returned (.bool true) ∧ Below w.heap.size w w' := by
  go_enter Try.func25, Try.ntmps25
  go_wp2
  go_loopw [5] (fun i wr => ∃ (k : Nat), k ≤ fs.length ∧ i = .int .i64 k ∧ Below w.heap.size w wr) (fun i _ => fs.length - (intOf i).toNat)
  case atStart => exact ⟨0, by omega, rfl, Below.refl _ _⟩
  case round =>
    obtain ⟨k, hk, rfl, hb⟩ := hrel
    by_cases hlt : k < fs.length
    · obtain ⟨b, off, ca, cc, rfl, -, c1, d1, e1, f1⟩ := hm k hlt
      obtain ⟨b2, off2, ca2, cc2, rfl, -, c2, d2, e2, f2⟩ := hm2 k hlt
      have c1' := cell_later hb c1
      have c2' := cell_later hb c2
      have d1' := cell_later hb d1
      have d2' := cell_later hb d2
      have e1' := cell_later hb e1
      have e2' := cell_later hb e2
      have hck := hc fs[k] (List.getElem_mem hlt)
      clear c1 c2 d1 d2 e1 e2
      go_wp2
      go_region_with (go_at_call 45; refine (eqFunc_any _ _ _ _ _ _ _ _ hck (by exact f1.mono (by repeat (first | exact hb | apply Below.drew))) (by exact f2.mono (by repeat (first | exact hb | apply Below.drew)))).mono ?_; rintro e w1 ⟨rfl, hb1⟩)
      all_goals
        go_wp2
        go_roundw
        case rel =>
          refine ⟨k + 1, by omega, by go_num, Below.trans ?_ (hb1.mono ?_)⟩
          · repeat (first | exact hb | apply Below.drew)
          · exact hb.size
        case measure => simp [intOf]; omega
    · go_wp2
      go_ret
      exact ⟨rfl, hb⟩

set_option maxHeartbeats 400000 in
theorem eqModule_any (a1 a2 : Option Addr) (b1 b2 : Option Addr) (ts : List ByteArray) (fs : List Fn) (c1 c2 d1 d2 : Nat) (w : World) (hs : Small ts fs) (hm : StrsAt w 0 a1 ts) (hm2 : StrsAt w 0 b1 ts) (hf : FnsAt w 0 a2 fs) (hf2 : FnsAt w 0 b2 fs) :
    Calls Try.prog 9 #[.agg #[.slice a1 ts.length c1, .slice a2 fs.length c2], .agg #[.slice b1 ts.length d1, .slice b2 fs.length d2]] w fun e w' => e = .returned (.bool true) ∧ Below w.heap.size w w' := by
  go_enter Try.func9, Try.ntmps9
  go_wp2_with fail
  have hbA : Below w.heap.size w ((w.alloc (.cells #[.slice a1 ts.length c1, .slice a2 fs.length c2] 29)).alloc (.cells #[.slice b1 ts.length d1, .slice b2 fs.length d2] 29)) := ((Below.refl _ _).alloc (Nat.le_refl _) _).alloc (by simp) _
  refine (eqStringS_any a1 b1 ts c1 d1 _ hs.texts (hm.mono hbA) (hm2.mono hbA)).mono ?_
  rintro e w1 ⟨rfl, hb⟩
  have hA := block_kept (block_old (block_new w #[.slice a1 ts.length c1, .slice a2 fs.length c2] 29) (.cells #[.slice b1 ts.length d1, .slice b2 fs.length d2] 29)) hb
  have hB := block_kept (block_new (w.alloc (.cells #[.slice a1 ts.length c1, .slice a2 fs.length c2] 29)) #[.slice b1 ts.length d1, .slice b2 fs.length d2] 29) hb
  simp only [World.size_alloc] at hA hB
  have x1 := block_cell hA
  have x2 := block_cell hB
  have hb1 : Below w.heap.size w w1 := hbA.trans (hb.mono (by simp; omega))
  clear hA hB
  go_wp2_with fail
  refine (eqFuncS_any a2 b2 fs c2 d2 _ hs.funcs hs.code (hf.mono hb1) (hf2.mono hb1)).mono ?_
  rintro e w2 ⟨rfl, hb2⟩
  go_wp2
  go_ret
  exact ⟨rfl, hb1.trans (hb2.mono hb1.size)⟩
end Go.Proofs.Ytffeejkghmpkkaa

namespace Go.Proofs.Ytffeejkghmpkkaa
open Go.RowKit

section
variable {P : Program} {ops : Array Oper} {Q : Exit → Act → World → Prop} {md : Region.Mode} {S : World → Prop}
theorem h_take {i : Nat} {oi : Oper} {v : Value} {n : Nat} {listed : Array Bool} {a : Act} {w : World} (hi : ops[i]? = some oi)
    (hs : Region.noSelect ops = true) (hf : Region.free md ops listed i = true) (hr : (Region.ready md ops listed).contains i = true)
    (hQ : ∀ c a w, Q (.panic c) (a.put oi.dst v) w → Q (.panic c) a w) (hw : Region.wanted oi (yielded ops a.tmps) = true)
    (hy : ∀ w, S w → (execOp a.eval oi).run P w = .ok (.value v) w) (hS : S w)
    (h : wpAnyH P md ops Q S n (listed.setIfInBounds i true) (a.put oi.dst v) w) : wpAnyH P md ops Q S (n + 1) listed a w :=
  wpAnyH_take hi hs hf hr hQ (.inl ⟨hw, hy⟩) hS h
theorem h_skip {i : Nat} {oi : Oper} {n : Nat} {listed : Array Bool} {a : Act} {w : World} (hi : ops[i]? = some oi)
    (hs : Region.noSelect ops = true) (hf : Region.free md ops listed i = true) (hr : (Region.ready md ops listed).contains i = true)
    (hQ : ∀ c a w, Q (.panic c) (a.put oi.dst undef) w → Q (.panic c) a w) (hw : Region.wanted oi (yielded ops a.tmps) = false) (hS : S w)
    (h : wpAnyH P md ops Q S n (listed.setIfInBounds i true) (a.put oi.dst undef) w) : wpAnyH P md ops Q S (n + 1) listed a w :=
  wpAnyH_take hi hs hf hr hQ (.inr ⟨hw, rfl⟩) hS h
/-- One alone may come up. -/
theorem h_one {i : Nat} {o : Oper} {n : Nat} {listed : Array Bool} {a : Act} {w : World} (hr : Region.ready md ops listed = [i]) (ho : ops[i]? = some o)
    (h : ∀ K' : Act → World → Prop, Shut (∀ a w', S w' → wpAnyH P md ops Q S n (listed.setIfInBounds i true) a w' → K' a w') → if Region.wanted o (yielded ops a.tmps) = true then Oper.wp P o a w K' Q else K' (a.put o.dst undef) w) :
    wpAnyH P md ops Q S (n + 1) listed a w := by
  refine ⟨fun h0 => (by rw [hr] at h0; cases h0), fun j hj => ?_⟩
  rw [hr] at hj
  obtain rfl := List.mem_singleton.1 hj
  exact wpOp_step ho (fun K' hK => h K' (fun a w hS hW => hK a w ⟨hS, hW⟩))
/-- One of several comes up. -/
theorem h_some {i : Nat} {o : Oper} {n : Nat} {listed : Array Bool} {a : Act} {w : World} (ho : ops[i]? = some o)
    (h : ∀ K' : Act → World → Prop, Shut (∀ a w', S w' → wpAnyH P md ops Q S n (listed.setIfInBounds i true) a w' → K' a w') → if Region.wanted o (yielded ops a.tmps) = true then Oper.wp P o a w K' Q else K' (a.put o.dst undef) w) :
    wpOp P ops Q i (fun a' w' => S w' ∧ wpAnyH P md ops Q S n (listed.setIfInBounds i true) a' w') a w :=
  wpOp_step ho (fun K' hK => h K' (fun a w hS hW => hK a w ⟨hS, hW⟩))
theorem h_begin {id : Nat} {a : Act} {w : World} (S : World → Prop) (hm : P.follows .mixedOrders = true) (h : wpAnyH P .any ops Q S ops.size (Array.replicate ops.size false) a w.drew) : (Code.region id ops true).wp P Q a w :=
  wp_region_held hm h
end
end Go.Proofs.Ytffeejkghmpkkaa
