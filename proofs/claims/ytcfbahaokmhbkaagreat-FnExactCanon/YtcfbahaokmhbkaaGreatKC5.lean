/-
  impl's numbering in memory; what meeting a value does to it, and what it leaves as it was.
  The comparing functions of the laws (eq..) return true where both arguments read as the same data.
  A region that draws its order, walked operation by operation: what reads cells that every operation keeps is taken in the order of the text, by hand.
-/
import Derived.Test.YtcfbahaokmhbkaaGreatKC2
import Derived.Test.YtcfbahaokmhbkaaGreatX1
import Derived.Test.YtcfbahaokmhbkaaGreatKC1
import Derived.Deep.QuietTactic
import Derived.BigQuiet
import Derived.Deep.RegionWith
import Derived.Deep.RegionHeld3
namespace Go.Proofs.YtcfbahaokmhbkaaGreat
open Go.RowKit

/-- The object is a row that meeting leaves as it is. -/
def Other : Obj → Prop
  | .cells _ t _ => t ≠ 150 ∧ t ≠ 111
  | _ => False

/-- Of what was there only block g, and from lo on what belongs to the numbering, was written. -/
structure Kp (lo g : Nat) (w w' : World) : Prop where
  os : w'.os = w.os
  tape : w'.tape = w.tape
  output : w'.output = w.output
  size : w.heap.size ≤ w'.heap.size
  block : ∀ k o, w.heap[k]? = some o → k ≠ g → (k < lo ∨ Other o) → w'.heap[k]? = some o
theorem Kp.refl (lo g : Nat) (w : World) : Kp lo g w w := ⟨rfl, rfl, rfl, Nat.le_refl _, fun _ _ h _ _ => h⟩
theorem Kp.trans {lo g : Nat} {a b c : World} (h : Kp lo g a b) (k : Kp lo g b c) : Kp lo g a c :=
  ⟨k.os.trans h.os, k.tape.trans h.tape, k.output.trans h.output, Nat.le_trans h.size k.size, fun i o hi hg ho => k.block i o (h.block i o hi hg ho) hg ho⟩
theorem Kp.of {lo g : Nat} {w w' : World} (h : Below w.heap.size w w') : Kp lo g w w' :=
  ⟨h.os, h.tape, h.output, h.size, fun _ _ hi _ _ => block_kept hi h⟩
theorem Kp.set {lo g i : Nat} {a w : World} (h : Kp lo g a w) (v : Value) : Kp lo g a (w.setCell ⟨g, i, none⟩ v) :=
  ⟨h.os, h.tape, h.output, by have := h.size; simpa using this, fun k o hk hg ho => by rw [Below.heap_setCell _ _ _ _ hg]; exact h.block k o hk hg ho⟩
theorem Kp.setO {lo g b i t : Nat} {a w : World} {c : Array Value} {fr : Nat × Nat} (h : Kp lo g a w) (hb : w.heap[b]? = some (.cells c t fr)) (hlo : lo ≤ b) (ht : ¬ Other (.cells c t fr)) (v : Value) : Kp lo g a (w.setCell ⟨b, i, none⟩ v) :=
  ⟨h.os, h.tape, h.output, by have := h.size; simpa using this, fun k o hk hg ho => by
    have hx := h.block k o hk hg ho
    by_cases e : k = b
    · subst e
      rw [hb] at hx
      cases hx
      rcases ho with ho | ho
      · omega
      · exact absurd ho ht
    · rw [Below.heap_setCell _ _ _ _ e]; exact hx⟩
theorem Kp.putM {lo g b : Nat} {a w : World} {es es' : Array MapEntry} {c c' : Nat} (h : Kp lo g a w) (hb : w.heap[b]? = some (.map es c)) (hlo : lo ≤ b) : Kp lo g a (ChangeMaps.setBlock w b (.map es' c')) :=
  ⟨h.os, h.tape, h.output, by have := h.size; simpa [ChangeMaps.setBlock] using this, fun k o hk hg ho => by
    have hx := h.block k o hk hg ho
    by_cases e : k = b
    · subst e
      rw [hb] at hx
      cases hx
      rcases ho with ho | ho
      · omega
      · exact absurd ho (fun h => h)
    · rw [ChangeMaps.heap_setBlock_other hb _ e]; exact hx⟩
theorem Kp.grown {lo g B n : Nat} {v : Value} {xs : List Value} {a w w' : World} (h : Kp lo g a w) (hown : w.ownsRow B 111 1 v n xs) (hg : w.grownBy w' v.ownBlock) (hlo : lo ≤ B) : Kp lo g a w' := by
  refine ⟨hg.os.trans h.os, hg.tape.trans h.tape, hg.output.trans h.output, Nat.le_trans h.size hg.size, fun k o hk hkg ho => ?_⟩
  have hx := h.block k o hk hkg ho
  have hlt := lt_block hx
  rw [hg.block k hlt ?_]
  · exact hx
  · intro hkv
    rcases hown.2 with ⟨rfl, -⟩ | ⟨b, cap, cur, rfl, hb, hh, -⟩
    · simp [Value.ownBlock] at hkv
    · simp [Value.ownBlock] at hkv
      subst hkv
      rw [hh] at hx
      cases hx
      rcases ho with ho | ho
      · omega
      · exact absurd rfl ho.2
theorem Kp.kept {lo g k : Nat} {a b : World} {c : Array Value} {t : TypeId} {fr : Nat × Nat} (h : Kp lo g a b) (ho : a.heap[k]? = some (.cells c t fr)) (hk : k ≠ g) (ht : Other (.cells c t fr)) : b.heap[k]? = some (.cells c t fr) := h.block k _ ho hk (.inr ht)
theorem Kp.low {lo g k : Nat} {a b : World} {o : Obj} (h : Kp lo g a b) (ho : a.heap[k]? = some o) (hk : k ≠ g) (hl : k < lo) : b.heap[k]? = some o := h.block k _ ho hk (.inl hl)
theorem Kp.below {lo g B : Nat} {a b : World} (h : Kp lo g a b) (hl : B ≤ lo) (hg : B ≤ g) (hs : B ≤ a.heap.size) : Below B a b :=
  ⟨h.os, h.tape, h.output, h.size, fun k hk => by
    have : k < a.heap.size := by omega
    rw [Array.getElem?_eq_getElem this]
    exact h.block k _ (Array.getElem?_eq_getElem this) (by omega) (.inl (by omega))⟩

/-- The numbering: its block nb, its map mb; the records lie in block Hb; those of ms were met. -/
structure NumAt (w : World) (lo Hb nb mb : Nat) (mv : Value) (ms : List Nat) : Prop where
  num : w.heap[nb]? = some (.cells #[.map (some mb), mv] 150 (0, 0))
  map : w.heap[mb]? = some (.map (recEnts Hb 0 ms).toArray ms.length)
  met : w.ownsRow (nb + 1) 111 1 mv ms.length (ms.map fun n => .pointer (some ⟨Hb, n, none⟩))
  lom : lo ≤ mb
  mbn : mb < nb

theorem NumAt.mono {w w' : World} {lo Hb nb mb : Nat} {mv : Value} {ms : List Nat} (h : NumAt w lo Hb nb mb mv ms) (hb : Below w.heap.size w w') : NumAt w' lo Hb nb mb mv ms :=
  ⟨block_kept h.num hb, block_kept h.map hb, h.met.kept (row := none) ⟨hb.os, hb.tape, hb.output, hb.size, fun k hk _ => hb.block k hk⟩ (by cases mv <;> simp [Value.ownBlock] <;> rename_i a _ _ <;> cases a <;> simp), h.lom, h.mbn⟩

theorem NumAt.set {w : World} {lo Hb nb mb g i t : Nat} {mv : Value} {ms : List Nat} {c : Array Value} (h : NumAt w lo Hb nb mb mv ms) (hg : w.heap[g]? = some (.cells c t (0, 0))) (ht : Other (.cells c t (0, 0))) (v : Value) : NumAt (w.setCell ⟨g, i, none⟩ v) lo Hb nb mb mv ms := by
  have n1 : nb ≠ g := fun e => by
    have := h.num; rw [e, hg] at this; cases this; exact ht.1 rfl
  have n2 : mb ≠ g := fun e => by
    have := h.map; rw [e, hg] at this; cases this
  refine ⟨by rw [Below.heap_setCell _ _ _ _ n1]; exact h.num, by rw [Below.heap_setCell _ _ _ _ n2]; exact h.map, ⟨h.met.1, ?_⟩, h.lom, h.mbn⟩
  rcases h.met.2 with ⟨e, hn⟩ | ⟨b, cap, cur, e, hb, hh, r⟩
  · exact .inl ⟨e, hn⟩
  · refine .inr ⟨b, cap, cur, e, hb, ?_, r⟩
    have n3 : b ≠ g := fun e => by
      rw [e, hg] at hh; cases hh; exact ht.2 rfl
    rw [Below.heap_setCell _ _ _ _ n3]; exact hh

theorem grown_kept {w w' : World} {base e size n k : Nat} {v : Value} {xs : List Value} {o : Obj} (hown : w.ownsRow base e size v n xs) (hk : k < base) (ho : w.heap[k]? = some o) (hg : w.grownBy w' v.ownBlock) : w'.heap[k]? = some o := by
  rw [hg.block k (Array.getElem?_eq_some_iff.1 ho).1 (fun e => by have := (hown.lt k e.symm).1; omega)]
  exact ho
/-- A row of another type than the one that grows is as it was. -/
theorem grown_other {w w' : World} {base e size n k : Nat} {v : Value} {xs : List Value} {c : Array Value} {t : TypeId} {fr : Nat × Nat} (hown : w.ownsRow base e size v n xs) (ho : w.heap[k]? = some (.cells c t fr)) (ht : t ≠ e) (hg : w.grownBy w' v.ownBlock) : w'.heap[k]? = some (.cells c t fr) := by
  rw [hg.block k (lt_block ho) ?_]
  · exact ho
  · intro hkv
    rcases hown.2 with ⟨rfl, -⟩ | ⟨b, cap, cur, rfl, hb, hh, -⟩
    · simp [Value.ownBlock] at hkv
    · simp [Value.ownBlock] at hkv
      subst hkv
      rw [ho] at hh
      cases hh
      exact ht rfl
/-- A map is as it was. -/
theorem grown_map {w w' : World} {base e size n k : Nat} {v : Value} {xs : List Value} {es : Array MapEntry} {c : Nat} (hown : w.ownsRow base e size v n xs) (ho : w.heap[k]? = some (.map es c)) (hg : w.grownBy w' v.ownBlock) : w'.heap[k]? = some (.map es c) := by
  rw [hg.block k (lt_block ho) ?_]
  · exact ho
  · intro hkv
    rcases hown.2 with ⟨rfl, -⟩ | ⟨b, cap, cur, rfl, hb, hh, -⟩
    · simp [Value.ownBlock] at hkv
    · simp [Value.ownBlock] at hkv
      subst hkv
      rw [ho] at hh
      cases hh

theorem info111 : (Tryz.prog.info? 111).map (fun i => (i.zero, i.size, i.bytes)) = some (some (.pointer none), 1, 8) := by kernel_rfl

set_option maxRecDepth 100000 in
set_option maxHeartbeats 2000000 in
theorem numberOf_any (lo Hb nb mb : Nat) (mv : Value) (ms : List Nat) (j : Nat) (w : World) (hN : NumAt w lo Hb nb mb mv ms) (hl : ms.length ≤ 1048576) :
    Calls Tryz.prog 107 #[.pointer (some ⟨nb, 0, none⟩), .pointer (some ⟨Hb, j, none⟩)] w fun e w' => e = .returned (.int .i64 (idx ms j : Nat)) ∧ (∀ g, Kp lo g w w') ∧ ∃ mv', NumAt w' lo Hb nb mb mv' (seen ms j) := by
  have n1 := block_cell hN.num
  have hlk := look_ptr Hb j mb ms ms.length w hN.map
  by_cases hm : j ∈ ms
  · rw [if_pos hm, decide_eq_true hm] at hlk
    have HM : Hid (j ∈ ms) := hm
    have HN : Hid (NumAt w lo Hb nb mb mv ms) := hN
    clear hm hN
    go_enter Tryz.func107, Tryz.ntmps107
    go_wp2
    go_ret
    exact ⟨rfl, fun g => Kp.refl _ _ _, mv, by rw [seen, if_pos HM.out]; exact HN.out⟩
  · rw [if_neg hm, decide_eq_false hm] at hlk
    have HM : Hid (j ∉ ms) := hm
    obtain ⟨a, cap, rfl⟩ : ∃ a cap, mv = .slice a ms.length cap := by
      rcases hN.met.2 with ⟨e, h0⟩ | ⟨b, cp, cu, e, -⟩
      · exact ⟨none, 0, by rw [e, h0]⟩
      · exact ⟨_, cp, e⟩
    obtain ⟨i0, hi, hz0, hz1, hz2⟩ := info_parts info111
    obtain ⟨w2, hw2⟩ : ∃ w2, w2 = ChangeMaps.setBlock w mb (.map (recEnts Hb 0 (ms ++ [j])).toArray (ms ++ [j]).length) := ⟨_, rfl⟩
    have hput := put_ptr Hb j mb ms w hm hN.map
    rw [← hw2] at hput
    have hK2 : ∀ g, Kp lo g w w2 := fun g => by rw [hw2]; exact (Kp.refl _ _ _).putM hN.map hN.lom
    have hnum2 : w2.heap[nb]? = some (.cells #[.map (some mb), .slice a ms.length cap] 150 (0, 0)) := by
      rw [hw2, ChangeMaps.heap_setBlock_other hN.map _ (by have := hN.mbn; omega)]; exact hN.num
    have hmap2 : w2.heap[mb]? = some (.map (recEnts Hb 0 (ms ++ [j])).toArray (ms ++ [j]).length) := by
      rw [hw2]; exact ChangeMaps.heap_setBlock_same hN.map _
    have hown2 : w2.ownsRow (nb + 1) 111 1 (.slice a ms.length cap) ms.length (ms.map fun n => .pointer (some ⟨Hb, n, none⟩)) := by
      refine hN.met.kept (row := some mb) ⟨by rw [hw2]; rfl, by rw [hw2]; rfl, by rw [hw2]; rfl, by rw [hw2]; simp [ChangeMaps.setBlock], fun k _ hk => ?_⟩ ?_
      · rw [hw2]; exact ChangeMaps.heap_setBlock_other hN.map _ (fun e => hk (by rw [e]))
      · rcases hN.met.2 with ⟨e, -⟩ | ⟨b, cp, cu, e, hb, -⟩
        · rw [e]; exact .inl rfl
        · rw [e]; right; intro e2; simp [Value.ownBlock] at e2; have := hN.mbn; omega
    have hz2' : nb + 1 ≤ w2.heap.size := lt_block hnum2
    have HL : Hid (lo ≤ mb ∧ mb < nb) := ⟨hN.lom, hN.mbn⟩
    clear hw2 hm hN
    have n2 := block_cell hnum2
    have nA := block_cell (block_old hnum2 (.cells #[.pointer (some ⟨Hb, j, none⟩)] 111))
    go_enter Tryz.func107, Tryz.ntmps107
    go_wp2_with (at_builtin; refine wpList_append_lies _ rfl _ _ 148 rfl (nb + 1) 111 i0 (.pointer none) 1 8 Tryz.underlying148 hi hz0 hz1 hz2 rfl (by decide) _ _ _ rfl (World.ownsRow.alloc hown2 _) ⟨w2.heap.size, 0, none⟩ 1 1 [.pointer (some ⟨Hb, j, none⟩)] rfl rfl (World.news_of_block (cs := #[.pointer (some ⟨Hb, j, none⟩)]) (t := 111) (fr := (0, 0)) (heap_alloc_new w2 _)) (by simp [Value.oneCell']) (by decide) (by unfold maxLen; omega) (by omega) (by simp; omega) _ rfl ?_; intro g3 cap3 w3 hown3 hgrow3 hat3 hlt3; have hnum3 := grown_kept (World.ownsRow.alloc hown2 _) (by omega) (block_old hnum2 _) hgrow3; have n3 := block_cell hnum3; have f3 := block_free hnum3)
    go_ret
    have hKA : ∀ g, Kp lo g w (w2.alloc (.cells #[.pointer (some ⟨Hb, j, none⟩)] 111)) := fun g => (hK2 g).trans (Kp.of ((Below.refl _ _).alloc (Nat.le_refl _) _))
    have hK3 : ∀ g, Kp lo g w w3 := fun g => (hKA g).grown (World.ownsRow.alloc hown2 _) hgrow3 (by have := HL.out; omega)
    have hmap3 := grown_kept (World.ownsRow.alloc hown2 _) (by have := HL.out; omega) (block_old hmap2 _) hgrow3
    have hgb3 : nb + 1 ≤ g3 := by
      rcases hown3.2 with ⟨e, -⟩ | ⟨b, cp, cu, e, hb, -⟩
      · cases e
      · cases e; exact hb
    refine ⟨by rw [idx_new HM.out]; rfl, fun g => (hK3 g).setO hnum3 (by have := HL.out; omega) (fun h => h.1 rfl) _, .slice (some ⟨g3, 0, none⟩) (ms.length + 1) cap3, ?_⟩
    rw [seen, if_neg HM.out]
    refine ⟨?_, ?_, ?_, HL.out.1, HL.out.2⟩
    · have := block_set (i := 1) hnum3 (.slice (some ⟨g3, 0, none⟩) (ms.length + 1) cap3)
      simpa using this
    · rw [Below.heap_setCell _ _ _ _ (by have := HL.out; show mb ≠ nb; omega)]; exact hmap3
    · have e1 : (ms ++ [j]).length = ms.length + 1 := by simp
      have e2 : ((ms ++ [j]).map fun n => Value.pointer (some ⟨Hb, n, none⟩)) = (ms.map fun n => Value.pointer (some ⟨Hb, n, none⟩)) ++ [.pointer (some ⟨Hb, j, none⟩)] := by simp
      rw [e1, e2]
      refine ⟨hown3.1, ?_⟩
      rcases hown3.2 with ⟨e, -⟩ | ⟨b, cp, cu, e, hb, hh, r⟩
      · cases e
      · cases e
        exact .inr ⟨g3, cap3, cu, rfl, hb, by rw [Below.heap_setCell _ _ _ _ (by show g3 ≠ nb; omega)]; exact hh, r⟩
end Go.Proofs.YtcfbahaokmhbkaaGreat

namespace Go.Proofs.YtcfbahaokmhbkaaGreat
open Go.RowKit


set_option maxHeartbeats 400000 in
theorem eqStringS_any (a a2 : Option Addr) (ss : List ByteArray) (cap cap2 : Nat) (w : World) (hn : ss.length ≤ 1048576) (hm : StrsAt w 0 a ss) (hm2 : StrsAt w 0 a2 ss) :
    Calls Tryz.prog 34 #[.slice a ss.length cap, .slice a2 ss.length cap2] w fun e w' => e = .returned (.bool true) ∧ Below w.heap.size w w' := by
  go_enter Tryz.func34, Tryz.ntmps34
  go_wp2
  go_loopw [5] (fun i wr => ∃ (k : Nat), k ≤ ss.length ∧ i = .int .i64 k ∧ Below w.heap.size w wr) (fun i _ => ss.length - (intOf i).toNat)
  case atStart => exact ⟨0, by omega, rfl, Below.refl _ _⟩
  case round =>
    obtain ⟨k, hk, rfl, hb⟩ := hrel
    by_cases hlt : k < ss.length
    · obtain ⟨b, off, rfl, -, c1⟩ := hm k hlt
      obtain ⟨b2, off2, rfl, -, c2⟩ := hm2 k hlt
      have c1' := cell_later hb c1
      have c2' := cell_later hb c2
      clear c1 c2
      go_wp2
      go_quiet (fail)
      go_wp2
      go_roundw
      case rel => exact ⟨k + 1, by omega, by go_num, below_draws hb _⟩
      case measure => simp [intOf]; omega
    · go_wp2
      go_ret
      exact ⟨rfl, hb⟩

set_option maxHeartbeats 400000 in
theorem eqIns_same (o a : Int) (w : World) :
    Calls Tryz.prog 133 #[.agg #[.int .i64 o, .int .i64 a], .agg #[.int .i64 o, .int .i64 a]] w fun e w' => e = .returned (.bool true) ∧ Below w.heap.size w w' := by
  go_enter Tryz.func133, Tryz.ntmps133
  go_wp2
  go_ret
  exact ⟨rfl, ((Below.refl _ _).alloc (Nat.le_refl _) _).alloc (by simp) _⟩

set_option maxHeartbeats 400000 in
theorem eqInsS_any (a a2 : Option Addr) (xs : List (Int × Int)) (cap cap2 : Nat) (w : World) (hn : xs.length ≤ 1048576) (hm : CodeAt w 0 a xs) (hm2 : CodeAt w 0 a2 xs) :
    Calls Tryz.prog 109 #[.slice a xs.length cap, .slice a2 xs.length cap2] w fun e w' => e = .returned (.bool true) ∧ Below w.heap.size w w' := by
  go_enter Tryz.func109, Tryz.ntmps109
  go_wp2
  go_loopw [5] (fun i wr => ∃ (k : Nat), k ≤ xs.length ∧ i = .int .i64 k ∧ Below w.heap.size w wr) (fun i _ => xs.length - (intOf i).toNat)
  case atStart => exact ⟨0, by omega, rfl, Below.refl _ _⟩
  case round =>
    obtain ⟨k, hk, rfl, hb⟩ := hrel
    by_cases hlt : k < xs.length
    · obtain ⟨b, off, rfl, -, c1, d1⟩ := hm k hlt
      obtain ⟨b2, off2, rfl, -, c2, d2⟩ := hm2 k hlt
      have c1' := cell_later hb c1
      have c2' := cell_later hb c2
      have d1' := cell_later hb d1
      have d2' := cell_later hb d2
      clear c1 c2 d1 d2
      go_wp2
      go_region_with (go_at_call 133; refine (eqIns_same _ _ _).mono ?_; rintro e w1 ⟨rfl, hb1⟩)
      all_goals
        go_wp2
        go_roundw
        case rel =>
          refine ⟨k + 1, by omega, by go_num, Below.trans ?_ (hb1.mono ?_)⟩
          · repeat (first | exact hb | apply Below.drew)
          · exact hb.size
        case measure => simp [intOf]; omega
    · go_wp2
      go_ret
      exact ⟨rfl, hb⟩

set_option maxHeartbeats 400000 in
theorem eqFunc_any (p l : Int) (a a2 : Option Addr) (xs : List (Int × Int)) (cap cap2 : Nat) (w : World) (hn : xs.length ≤ 1048576) (hm : CodeAt w 0 a xs) (hm2 : CodeAt w 0 a2 xs) :
    Calls Tryz.prog 68 #[.agg #[.int .i64 p, .int .i64 l, .slice a xs.length cap], .agg #[.int .i64 p, .int .i64 l, .slice a2 xs.length cap2]] w fun e w' => e = .returned (.bool true) ∧ Below w.heap.size w w' := by
  go_enter Tryz.func68, Tryz.ntmps68
  go_wp2_with fail
  have hbA : Below w.heap.size w ((w.alloc (.cells #[.int .i64 p, .int .i64 l, .slice a xs.length cap] 97)).alloc (.cells #[.int .i64 p, .int .i64 l, .slice a2 xs.length cap2] 97)) := ((Below.refl _ _).alloc (Nat.le_refl _) _).alloc (by simp) _
  refine (eqInsS_any a a2 xs cap cap2 _ hn (hm.mono hbA) (hm2.mono hbA)).mono ?_
  rintro e w1 ⟨rfl, hb⟩
  go_wp2
  go_ret
  exact ⟨rfl, hbA.trans (hb.mono (by simp; omega))⟩

set_option maxHeartbeats 400000 in
theorem eqFuncS_any (a a2 : Option Addr) (fs : List Fn) (cap cap2 : Nat) (w : World) (hn : fs.length ≤ 1048576) (hc : ∀ f ∈ fs, f.code.length ≤ 1048576) (hm : FnsAt w 0 a fs) (hm2 : FnsAt w 0 a2 fs) :
    Calls Tryz.prog 36 #[.slice a fs.length cap, .slice a2 fs.length cap2] w fun e w' => e = .returned (.bool true) ∧ Below w.heap.size w w' := by
  go_enter Tryz.func36, Tryz.ntmps36
  go_wp2
  go_loopw [5] (fun i wr => ∃ (k : Nat), k ≤ fs.length ∧ i = .int .i64 k ∧ Below w.heap.size w wr) (fun i _ => fs.length - (intOf i).toNat)
  case atStart => exact ⟨0, by omega, rfl, Below.refl _ _⟩
  case round =>
    obtain ⟨k, hk, rfl, hb⟩ := hrel
    by_cases hlt : k < fs.length
    · obtain ⟨b, off, ca, cc, rfl, -, c1, d1, e1, f1⟩ := hm k hlt
      obtain ⟨b2, off2, ca2, cc2, rfl, -, c2, d2, e2, f2⟩ := hm2 k hlt
      have c1' := cell_later hb c1
      have c2' := cell_later hb c2
      have d1' := cell_later hb d1
      have d2' := cell_later hb d2
      have e1' := cell_later hb e1
      have e2' := cell_later hb e2
      have hck := hc fs[k] (List.getElem_mem hlt)
      clear c1 c2 d1 d2 e1 e2
      go_wp2
      go_region_with (go_at_call 68; refine (eqFunc_any _ _ _ _ _ _ _ _ hck (by exact f1.mono (by repeat (first | exact hb | apply Below.drew))) (by exact f2.mono (by repeat (first | exact hb | apply Below.drew)))).mono ?_; rintro e w1 ⟨rfl, hb1⟩)
      all_goals
        go_wp2
        go_roundw
        case rel =>
          refine ⟨k + 1, by omega, by go_num, Below.trans ?_ (hb1.mono ?_)⟩
          · repeat (first | exact hb | apply Below.drew)
          · exact hb.size
        case measure => simp [intOf]; omega
    · go_wp2
      go_ret
      exact ⟨rfl, hb⟩

set_option maxHeartbeats 400000 in
theorem eqModule_any (a1 a2 : Option Addr) (b1 b2 : Option Addr) (ts : List ByteArray) (fs : List Fn) (c1 c2 d1 d2 : Nat) (w : World) (hs : Small ts fs) (hm : StrsAt w 0 a1 ts) (hm2 : StrsAt w 0 b1 ts) (hf : FnsAt w 0 a2 fs) (hf2 : FnsAt w 0 b2 fs) :
    Calls Tryz.prog 12 #[.agg #[.slice a1 ts.length c1, .slice a2 fs.length c2], .agg #[.slice b1 ts.length d1, .slice b2 fs.length d2]] w fun e w' => e = .returned (.bool true) ∧ Below w.heap.size w w' := by
  go_enter Tryz.func12, Tryz.ntmps12
  go_wp2_with fail
  have hbA : Below w.heap.size w ((w.alloc (.cells #[.slice a1 ts.length c1, .slice a2 fs.length c2] 42)).alloc (.cells #[.slice b1 ts.length d1, .slice b2 fs.length d2] 42)) := ((Below.refl _ _).alloc (Nat.le_refl _) _).alloc (by simp) _
  refine (eqStringS_any a1 b1 ts c1 d1 _ hs.texts (hm.mono hbA) (hm2.mono hbA)).mono ?_
  rintro e w1 ⟨rfl, hb⟩
  have hA := block_kept (block_old (block_new w #[.slice a1 ts.length c1, .slice a2 fs.length c2] 42) (.cells #[.slice b1 ts.length d1, .slice b2 fs.length d2] 42)) hb
  have hB := block_kept (block_new (w.alloc (.cells #[.slice a1 ts.length c1, .slice a2 fs.length c2] 42)) #[.slice b1 ts.length d1, .slice b2 fs.length d2] 42) hb
  simp only [World.size_alloc] at hA hB
  have x1 := block_cell hA
  have x2 := block_cell hB
  have hb1 : Below w.heap.size w w1 := hbA.trans (hb.mono (by simp; omega))
  clear hA hB
  go_wp2_with fail
  refine (eqFuncS_any a2 b2 fs c2 d2 _ hs.funcs hs.code (hf.mono hb1) (hf2.mono hb1)).mono ?_
  rintro e w2 ⟨rfl, hb2⟩
  go_wp2
  go_ret
  exact ⟨rfl, hb1.trans (hb2.mono hb1.size)⟩
end Go.Proofs.YtcfbahaokmhbkaaGreat

namespace Go.Proofs.YtcfbahaokmhbkaaGreat
open Go.RowKit

section
variable {P : Program} {ops : Array Oper} {Q : Exit → Act → World → Prop} {md : Region.Mode} {S : World → Prop}
theorem h_take {i : Nat} {oi : Oper} {v : Value} {n : Nat} {listed : Array Bool} {a : Act} {w : World} (hi : ops[i]? = some oi)
    (hs : Region.noSelect ops = true) (hf : Region.free md ops listed i = true) (hr : (Region.ready md ops listed).contains i = true)
    (hQ : ∀ c a w, Q (.panic c) (a.put oi.dst v) w → Q (.panic c) a w) (hw : Region.wanted oi (yielded ops a.tmps) = true)
    (hy : ∀ w, S w → (execOp a.eval oi).run P w = .ok (.value v) w) (hS : S w)
    (h : wpAnyH P md ops Q S n (listed.setIfInBounds i true) (a.put oi.dst v) w) : wpAnyH P md ops Q S (n + 1) listed a w :=
  wpAnyH_take hi hs hf hr hQ (.inl ⟨hw, hy⟩) hS h
theorem h_skip {i : Nat} {oi : Oper} {n : Nat} {listed : Array Bool} {a : Act} {w : World} (hi : ops[i]? = some oi)
    (hs : Region.noSelect ops = true) (hf : Region.free md ops listed i = true) (hr : (Region.ready md ops listed).contains i = true)
    (hQ : ∀ c a w, Q (.panic c) (a.put oi.dst undef) w → Q (.panic c) a w) (hw : Region.wanted oi (yielded ops a.tmps) = false) (hS : S w)
    (h : wpAnyH P md ops Q S n (listed.setIfInBounds i true) (a.put oi.dst undef) w) : wpAnyH P md ops Q S (n + 1) listed a w :=
  wpAnyH_take hi hs hf hr hQ (.inr ⟨hw, rfl⟩) hS h
/-- One alone may come up. -/
theorem h_one {i : Nat} {o : Oper} {n : Nat} {listed : Array Bool} {a : Act} {w : World} (hr : Region.ready md ops listed = [i]) (ho : ops[i]? = some o)
    (h : ∀ K' : Act → World → Prop, Shut (∀ a w', S w' → wpAnyH P md ops Q S n (listed.setIfInBounds i true) a w' → K' a w') → if Region.wanted o (yielded ops a.tmps) = true then Oper.wp P o a w K' Q else K' (a.put o.dst undef) w) :
    wpAnyH P md ops Q S (n + 1) listed a w := by
  refine ⟨fun h0 => (by rw [hr] at h0; cases h0), fun j hj => ?_⟩
  rw [hr] at hj
  obtain rfl := List.mem_singleton.1 hj
  exact wpOp_step ho (fun K' hK => h K' (fun a w hS hW => hK a w ⟨hS, hW⟩))
/-- One of several comes up. -/
theorem h_some {i : Nat} {o : Oper} {n : Nat} {listed : Array Bool} {a : Act} {w : World} (ho : ops[i]? = some o)
    (h : ∀ K' : Act → World → Prop, Shut (∀ a w', S w' → wpAnyH P md ops Q S n (listed.setIfInBounds i true) a w' → K' a w') → if Region.wanted o (yielded ops a.tmps) = true then Oper.wp P o a w K' Q else K' (a.put o.dst undef) w) :
    wpOp P ops Q i (fun a' w' => S w' ∧ wpAnyH P md ops Q S n (listed.setIfInBounds i true) a' w') a w :=
  wpOp_step ho (fun K' hK => h K' (fun a w hS hW => hK a w ⟨hS, hW⟩))
theorem h_begin {id : Nat} {a : Act} {w : World} (S : World → Prop) (hm : P.follows .mixedOrders = true) (h : wpAnyH P .any ops Q S ops.size (Array.replicate ops.size false) a w.drew) : (Code.region id ops true).wp P Q a w :=
  wp_region_held hm h
end
end Go.Proofs.YtcfbahaokmhbkaaGreat
