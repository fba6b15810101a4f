/-
  impl's numbering in memory; what meeting a value does to it, and what it leaves as it was.
-/
import Derived.Test.YtcebgbcgkkfedaaGreatC1
import Derived.Test.YtcebgbcgkkfedaaGreatMem3
import Derived.Test.YtcebgbcgkkfedaaGreatX1
namespace Go.Proofs.YtcebgbcgkkfedaaGreat
open Go.RowKit

/-- The object is a row that meeting leaves as it is. -/
def Other : Obj → Prop
  | .cells _ t _ => t ≠ 111 ∧ t ≠ 140
  | _ => False

/-- Of what was there only block g, and from lo on what belongs to the numbering, was written. -/
structure Kp (lo g : Nat) (w w' : World) : Prop where
  os : w'.os = w.os
  tape : w'.tape = w.tape
  output : w'.output = w.output
  size : w.heap.size ≤ w'.heap.size
  block : ∀ k o, w.heap[k]? = some o → k ≠ g → (k < lo ∨ Other o) → w'.heap[k]? = some o
theorem Kp.refl (lo g : Nat) (w : World) : Kp lo g w w := ⟨rfl, rfl, rfl, Nat.le_refl _, fun _ _ h _ _ => h⟩
theorem Kp.trans {lo g : Nat} {a b c : World} (h : Kp lo g a b) (k : Kp lo g b c) : Kp lo g a c :=
  ⟨k.os.trans h.os, k.tape.trans h.tape, k.output.trans h.output, Nat.le_trans h.size k.size, fun i o hi hg ho => k.block i o (h.block i o hi hg ho) hg ho⟩
theorem Kp.of {lo g : Nat} {w w' : World} (h : Below w.heap.size w w') : Kp lo g w w' :=
  ⟨h.os, h.tape, h.output, h.size, fun _ _ hi _ _ => block_kept hi h⟩
theorem Kp.set {lo g i : Nat} {a w : World} (h : Kp lo g a w) (v : Value) : Kp lo g a (w.setCell ⟨g, i, none⟩ v) :=
  ⟨h.os, h.tape, h.output, by have := h.size; simpa using this, fun k o hk hg ho => by rw [Below.heap_setCell _ _ _ _ hg]; exact h.block k o hk hg ho⟩
theorem Kp.setO {lo g b i t : Nat} {a w : World} {c : Array Value} {fr : Nat × Nat} (h : Kp lo g a w) (hb : w.heap[b]? = some (.cells c t fr)) (hlo : lo ≤ b) (ht : ¬ Other (.cells c t fr)) (v : Value) : Kp lo g a (w.setCell ⟨b, i, none⟩ v) :=
  ⟨h.os, h.tape, h.output, by have := h.size; simpa using this, fun k o hk hg ho => by
    have hx := h.block k o hk hg ho
    by_cases e : k = b
    · subst e
      rw [hb] at hx
      cases hx
      rcases ho with ho | ho
      · omega
      · exact absurd ho ht
    · rw [Below.heap_setCell _ _ _ _ e]; exact hx⟩
theorem Kp.putM {lo g b : Nat} {a w : World} {es es' : Array MapEntry} {c c' : Nat} (h : Kp lo g a w) (hb : w.heap[b]? = some (.map es c)) (hlo : lo ≤ b) : Kp lo g a (ChangeMaps.setBlock w b (.map es' c')) :=
  ⟨h.os, h.tape, h.output, by have := h.size; simpa [ChangeMaps.setBlock] using this, fun k o hk hg ho => by
    have hx := h.block k o hk hg ho
    by_cases e : k = b
    · subst e
      rw [hb] at hx
      cases hx
      rcases ho with ho | ho
      · omega
      · exact absurd ho (fun h => h)
    · rw [ChangeMaps.heap_setBlock_other hb _ e]; exact hx⟩
theorem Kp.grown {lo g B n : Nat} {v : Value} {xs : List Value} {a w w' : World} (h : Kp lo g a w) (hown : w.ownsRow B 140 1 v n xs) (hg : w.grownBy w' v.ownBlock) (hlo : lo ≤ B) : Kp lo g a w' := by
  refine ⟨hg.os.trans h.os, hg.tape.trans h.tape, hg.output.trans h.output, Nat.le_trans h.size hg.size, fun k o hk hkg ho => ?_⟩
  have hx := h.block k o hk hkg ho
  have hlt := lt_block hx
  rw [hg.block k hlt ?_]
  · exact hx
  · intro hkv
    rcases hown.2 with ⟨rfl, -⟩ | ⟨b, cap, cur, rfl, hb, hh, -⟩
    · simp [Value.ownBlock] at hkv
    · simp [Value.ownBlock] at hkv
      subst hkv
      rw [hh] at hx
      cases hx
      rcases ho with ho | ho
      · omega
      · exact absurd rfl ho.2
theorem Kp.kept {lo g k : Nat} {a b : World} {c : Array Value} {t : TypeId} {fr : Nat × Nat} (h : Kp lo g a b) (ho : a.heap[k]? = some (.cells c t fr)) (hk : k ≠ g) (ht : Other (.cells c t fr)) : b.heap[k]? = some (.cells c t fr) := h.block k _ ho hk (.inr ht)
theorem Kp.low {lo g k : Nat} {a b : World} {o : Obj} (h : Kp lo g a b) (ho : a.heap[k]? = some o) (hk : k ≠ g) (hl : k < lo) : b.heap[k]? = some o := h.block k _ ho hk (.inl hl)
theorem Kp.below {lo g B : Nat} {a b : World} (h : Kp lo g a b) (hl : B ≤ lo) (hg : B ≤ g) (hs : B ≤ a.heap.size) : Below B a b :=
  ⟨h.os, h.tape, h.output, h.size, fun k hk => by
    have : k < a.heap.size := by omega
    rw [Array.getElem?_eq_getElem this]
    exact h.block k _ (Array.getElem?_eq_getElem this) (by omega) (.inl (by omega))⟩

/-- The numbering: its block nb, its map mb; the records lie in block Hb; those of ms were met. -/
structure NumAt (w : World) (lo Hb H hcap nb mb : Nat) (mv : Value) (ms : List Nat) : Prop where
  num : w.heap[nb]? = some (.cells #[.slice (some ⟨Hb, 0, none⟩) H hcap, .map (some mb), mv] 111 (0, 0))
  map : w.heap[mb]? = some (.map (recEnts Hb 0 ms).toArray ms.length)
  met : w.ownsRow (nb + 1) 140 1 mv ms.length (ms.map fun n => .pointer (some ⟨Hb, n, none⟩))
  lom : lo ≤ mb
  mbn : mb < nb

theorem NumAt.mono {w w' : World} {lo Hb H hcap nb mb : Nat} {mv : Value} {ms : List Nat} (h : NumAt w lo Hb H hcap nb mb mv ms) (hb : Below w.heap.size w w') : NumAt w' lo Hb H hcap nb mb mv ms :=
  ⟨block_kept h.num hb, block_kept h.map hb, h.met.kept (row := none) ⟨hb.os, hb.tape, hb.output, hb.size, fun k hk _ => hb.block k hk⟩ (by cases mv <;> simp [Value.ownBlock] <;> rename_i a _ _ <;> cases a <;> simp), h.lom, h.mbn⟩

theorem NumAt.set {w : World} {lo Hb H hcap nb mb g i t : Nat} {mv : Value} {ms : List Nat} {c : Array Value} (h : NumAt w lo Hb H hcap nb mb mv ms) (hg : w.heap[g]? = some (.cells c t (0, 0))) (ht : Other (.cells c t (0, 0))) (v : Value) : NumAt (w.setCell ⟨g, i, none⟩ v) lo Hb H hcap nb mb mv ms := by
  have n1 : nb ≠ g := fun e => by
    have := h.num; rw [e, hg] at this; cases this; exact ht.1 rfl
  have n2 : mb ≠ g := fun e => by
    have := h.map; rw [e, hg] at this; cases this
  refine ⟨by rw [Below.heap_setCell _ _ _ _ n1]; exact h.num, by rw [Below.heap_setCell _ _ _ _ n2]; exact h.map, ⟨h.met.1, ?_⟩, h.lom, h.mbn⟩
  rcases h.met.2 with ⟨e, hn⟩ | ⟨b, cap, cur, e, hb, hh, r⟩
  · exact .inl ⟨e, hn⟩
  · refine .inr ⟨b, cap, cur, e, hb, ?_, r⟩
    have n3 : b ≠ g := fun e => by
      rw [e, hg] at hh; cases hh; exact ht.2 rfl
    rw [Below.heap_setCell _ _ _ _ n3]; exact hh

theorem grown_kept {w w' : World} {base e size n k : Nat} {v : Value} {xs : List Value} {o : Obj} (hown : w.ownsRow base e size v n xs) (hk : k < base) (ho : w.heap[k]? = some o) (hg : w.grownBy w' v.ownBlock) : w'.heap[k]? = some o := by
  rw [hg.block k (Array.getElem?_eq_some_iff.1 ho).1 (fun e => by have := (hown.lt k e.symm).1; omega)]
  exact ho
/-- A row of another type than the one that grows is as it was. -/
theorem grown_other {w w' : World} {base e size n k : Nat} {v : Value} {xs : List Value} {c : Array Value} {t : TypeId} {fr : Nat × Nat} (hown : w.ownsRow base e size v n xs) (ho : w.heap[k]? = some (.cells c t fr)) (ht : t ≠ e) (hg : w.grownBy w' v.ownBlock) : w'.heap[k]? = some (.cells c t fr) := by
  rw [hg.block k (lt_block ho) ?_]
  · exact ho
  · intro hkv
    rcases hown.2 with ⟨rfl, -⟩ | ⟨b, cap, cur, rfl, hb, hh, -⟩
    · simp [Value.ownBlock] at hkv
    · simp [Value.ownBlock] at hkv
      subst hkv
      rw [ho] at hh
      cases hh
      exact ht rfl
/-- A map is as it was. -/
theorem grown_map {w w' : World} {base e size n k : Nat} {v : Value} {xs : List Value} {es : Array MapEntry} {c : Nat} (hown : w.ownsRow base e size v n xs) (ho : w.heap[k]? = some (.map es c)) (hg : w.grownBy w' v.ownBlock) : w'.heap[k]? = some (.map es c) := by
  rw [hg.block k (lt_block ho) ?_]
  · exact ho
  · intro hkv
    rcases hown.2 with ⟨rfl, -⟩ | ⟨b, cap, cur, rfl, hb, hh, -⟩
    · simp [Value.ownBlock] at hkv
    · simp [Value.ownBlock] at hkv
      subst hkv
      rw [ho] at hh
      cases hh

theorem info140 : (Tryz.prog.info? 140).map (fun i => (i.zero, i.size, i.bytes)) = some (some (.pointer none), 1, 8) := by kernel_rfl

set_option maxRecDepth 100000 in
set_option maxHeartbeats 2000000 in
theorem meet_any (lo Hb H hcap nb mb : Nat) (mv : Value) (ms : List Nat) (g off t : Nat) (v : Vl) (cur : Array Value) (w : World) (hN : NumAt w lo Hb H hcap nb mb mv ms)
    (hg : w.heap[g]? = some (.cells cur t (0, 0))) (ht : Other (.cells cur t (0, 0))) (hk : cur[off]? = some (.int .i64 v.k)) (hn : cur[off + 1]? = some (.int .i64 v.n)) (hv : Named H v) (hH : H ≤ 1048576) (hM : Met H ms) :
    Calls Tryz.prog 62 #[.pointer (some ⟨nb, 0, none⟩), .pointer (some ⟨g, off, none⟩)] w fun e w' => e = .returned (.tuple #[]) ∧ Kp lo g w w' ∧ (∃ mv', NumAt w' lo Hb H hcap nb mb mv' (mS ms v)) ∧ w'.heap[g]? = some (.cells (cur.setIfInBounds (off + 1) (.int .i64 (mV ms v).n)) t (0, 0)) := by
  have c1 : w.cell? ⟨g, off, none⟩ = some (.int .i64 v.k) := by rw [block_cell hg]; exact hk
  have c2 : w.cell? ⟨g, off + 1, none⟩ = some (.int .i64 v.n) := by rw [block_cell hg]; exact hn
  by_cases h4 : v.k = 4
  · obtain ⟨j, hj, hjH⟩ : ∃ j : Nat, v.n = (j : Int) ∧ j < H := by
      obtain ⟨h1, h2⟩ := hv h4
      exact ⟨v.n.toNat, by omega, by omega⟩
    rw [h4] at c1
    rw [hj] at c2
    have n1 := block_cell hN.num
    have HLK : Hid (∀ w' : World, w'.heap = w.heap → (Instr.lookup 108 (.map (some mb)) (.pointer (some ⟨Hb, j, none⟩)) true).run Tryz.prog w' = .ok (.tuple #[.int .i64 (if j ∈ ms then ((idx ms j : Nat) : Int) else 0), .bool (decide (j ∈ ms))]) w') := fun w' hw => look_ptr Hb j mb ms ms.length w' (by rw [hw]; exact hN.map)
    have HG : Hid (w.heap[g]? = some (.cells cur t (0, 0))) := hg
    have HN : Hid (NumAt w lo Hb H hcap nb mb mv ms) := hN
    have eV : Hid ((mV ms v).n = (idx ms j : Int)) := by
      show (mV ms v).n = _
      unfold mV; rw [if_pos h4, hj, Int.toNat_natCast]
    have eS : Hid (mS ms v = seen ms j) := by
      show mS ms v = _
      unfold mS; rw [if_pos h4, hj, Int.toNat_natCast]
    have hfz := block_free hg
    have hML : Hid (ms.length ≤ H) := hM.le
    by_cases hm : j ∈ ms
    · have HM : Hid (j ∈ ms) := hm
      clear hm hN hg hk hn hv hM h4 hj
      go_enter Tryz.func62, Tryz.ntmps62
      go_wp2
      go_quiet (fail)
      have hlk := HLK.out (w.drewN nq) (by rfl)
      rw [if_pos HM.out, decide_eq_true HM.out] at hlk
      go_wp2
      go_end0
      have hbd : Below w.heap.size w (w.drewN nq) := below_drewN (Below.refl _ _) nq
      refine ⟨rfl, (Kp.of hbd).set _, ⟨mv, ?_⟩, ?_⟩
      · rw [eS.out, seen, if_pos HM.out]
        exact (HN.out.mono hbd).set (block_kept HG.out hbd) ht _
      · rw [eV.out]
        exact block_set (block_kept HG.out hbd) _
    · have HM : Hid (j ∉ ms) := hm
      have hmlen : ms.length ≤ 1048576 := by have := hM.le; omega
      obtain ⟨a, cap, rfl⟩ : ∃ a cap, mv = .slice a ms.length cap := by
        rcases hN.met.2 with ⟨e, h0⟩ | ⟨b, cp, cu, e, -⟩
        · exact ⟨none, 0, by rw [e, h0]⟩
        · exact ⟨_, cp, e⟩
      obtain ⟨i0, hi, hz0, hz1, hz2⟩ := info_parts info140
      have hgn : g ≠ nb := fun e => by have := hN.num; rw [← e, hg] at this; cases this; exact ht.1 rfl
      have hgm : g ≠ mb := fun e => by have := hN.map; rw [← e, hg] at this; cases this
      have HGn : Hid (g ≠ nb) := hgn
      have HGm : Hid (g ≠ mb) := hgm
      have hge : Hid (∀ b cp cu, Value.slice a ms.length cap = .slice (some ⟨b, 0, none⟩) ms.length cp → w.heap[b]? = some (.cells cu 140 (0, 0)) → g ≠ b) := fun b cp cu _ hh e => by rw [← e, hg] at hh; cases hh; exact ht.2 rfl
      clear hm hN hg hk hv hM h4 hgm
      have HC : Hid (cur[off + 1]? = some (.int .i64 (j : Int))) := by rw [← hj]; exact hn
      clear hn hj
      go_enter Tryz.func62, Tryz.ntmps62
      go_wp2
      go_quiet (fail)
      have hlk := HLK.out (w.drewN nq) (by rfl)
      rw [if_neg HM.out, decide_eq_false HM.out] at hlk
      have hbd : Below w.heap.size w (w.drewN nq) := below_drewN (Below.refl _ _) nq
      have hNd := HN.out.mono hbd
      have hGd := block_kept HG.out hbd
      obtain ⟨w2, hw2⟩ : ∃ w2, w2 = ChangeMaps.setBlock (w.drewN nq) mb (.map (recEnts Hb 0 (ms ++ [j])).toArray (ms ++ [j]).length) := ⟨_, rfl⟩
      have hput := put_ptr Hb j mb ms (w.drewN nq) HM.out hNd.map
      rw [← hw2] at hput
      have hK2 : Kp lo g w w2 := by rw [hw2]; exact (Kp.of hbd).putM hNd.map hNd.lom
      have hnum2 : w2.heap[nb]? = some (.cells #[.slice (some ⟨Hb, 0, none⟩) H hcap, .map (some mb), .slice a ms.length cap] 111 (0, 0)) := by
        rw [hw2, ChangeMaps.heap_setBlock_other hNd.map _ (by have := hNd.mbn; omega)]; exact hNd.num
      have hmap2 : w2.heap[mb]? = some (.map (recEnts Hb 0 (ms ++ [j])).toArray (ms ++ [j]).length) := by
        rw [hw2]; exact ChangeMaps.heap_setBlock_same hNd.map _
      have hown2 : w2.ownsRow (nb + 1) 140 1 (.slice a ms.length cap) ms.length (ms.map fun n => .pointer (some ⟨Hb, n, none⟩)) := by
        refine hNd.met.kept (row := some mb) ⟨by rw [hw2]; rfl, by rw [hw2]; rfl, by rw [hw2]; rfl, by rw [hw2]; simp [ChangeMaps.setBlock], fun k _ hk => ?_⟩ ?_
        · rw [hw2]; exact ChangeMaps.heap_setBlock_other hNd.map _ (fun e => hk (by rw [e]))
        · rcases hNd.met.2 with ⟨e, -⟩ | ⟨b, cp, cu, e, hb, -⟩
          · rw [e]; exact .inl rfl
          · rw [e]; right; intro e2; simp [Value.ownBlock] at e2; have := hNd.mbn; omega
      have hG2 : w2.heap[g]? = some (.cells cur t (0, 0)) := by
        rw [hw2, ChangeMaps.heap_setBlock_other hNd.map _ HGm.out]; exact hGd
      have hz2' : nb + 1 ≤ w2.heap.size := lt_block hnum2
      have HL : Hid (lo ≤ mb ∧ mb < nb) := ⟨hNd.lom, hNd.mbn⟩
      clear hw2 hNd hGd hbd HN HG HLK
      have n2 := block_cell hnum2
      have nA := block_cell (block_old hnum2 (.cells #[.pointer (some ⟨Hb, j, none⟩)] 140))
      go_wp2_with (at_builtin; refine wpList_append_lies _ rfl _ _ 109 rfl (nb + 1) 140 i0 (.pointer none) 1 8 Tryz.underlying109 hi hz0 hz1 hz2 rfl (by decide) _ _ _ rfl (World.ownsRow.alloc hown2 _) ⟨w2.heap.size, 0, none⟩ 1 1 [.pointer (some ⟨Hb, j, none⟩)] rfl rfl (World.news_of_block (cs := #[.pointer (some ⟨Hb, j, none⟩)]) (t := 140) (fr := (0, 0)) (heap_alloc_new w2 _)) (by simp [Value.oneCell']) (by decide) (by unfold maxLen; omega) (by omega) (by simp; omega) _ rfl ?_; intro g3 cap3 w3 hown3 hgrow3 hat3 hlt3; have hnum3 := grown_kept (World.ownsRow.alloc hown2 _) (by omega) (block_old hnum2 _) hgrow3; have n3 := block_cell hnum3; have f3 := block_free hnum3; have hG3 := grown_other (World.ownsRow.alloc hown2 _) (block_old hG2 _) ht.2 hgrow3; have hf3 := block_free hG3; have hc3 : w3.cell? ⟨g, off + 1, none⟩ = some (.int .i64 (j : Int)) := by rw [block_cell hG3]; exact HC.out)
      go_end0
      have hKA : Kp lo g w (w2.alloc (.cells #[.pointer (some ⟨Hb, j, none⟩)] 140)) := hK2.trans (Kp.of ((Below.refl _ _).alloc (Nat.le_refl _) _))
      have hK3 : Kp lo g w w3 := hKA.grown (World.ownsRow.alloc hown2 _) hgrow3 (by have := HL.out; omega)
      have hmap3 := grown_map (World.ownsRow.alloc hown2 _) (block_old hmap2 _) hgrow3
      have hgb3 : nb + 1 ≤ g3 := by
        rcases hown3.2 with ⟨e, -⟩ | ⟨b, cp, cu, e, hb, -⟩
        · cases e
        · cases e; exact hb
      have hN3 : NumAt (w3.setCell ⟨nb, 2, none⟩ (.slice (some ⟨g3, 0, none⟩) (ms.length + 1) cap3)) lo Hb H hcap nb mb (.slice (some ⟨g3, 0, none⟩) (ms.length + 1) cap3) (ms ++ [j]) := by
        refine ⟨?_, ?_, ?_, HL.out.1, HL.out.2⟩
        · have := block_set (i := 2) hnum3 (.slice (some ⟨g3, 0, none⟩) (ms.length + 1) cap3)
          simpa using this
        · rw [Below.heap_setCell _ _ _ _ (by have := HL.out; show mb ≠ nb; omega)]; exact hmap3
        · have e1 : (ms ++ [j]).length = ms.length + 1 := by simp
          have e2 : ((ms ++ [j]).map fun n => Value.pointer (some ⟨Hb, n, none⟩)) = (ms.map fun n => Value.pointer (some ⟨Hb, n, none⟩)) ++ [.pointer (some ⟨Hb, j, none⟩)] := by simp
          rw [e1, e2]
          refine ⟨hown3.1, ?_⟩
          rcases hown3.2 with ⟨e, -⟩ | ⟨b, cp, cu, e, hb, hh, r⟩
          · cases e
          · cases e
            exact .inr ⟨g3, cap3, cu, rfl, hb, by rw [Below.heap_setCell _ _ _ _ (by show g3 ≠ nb; omega)]; exact hh, r⟩
      have hG4 : (w3.setCell ⟨nb, 2, none⟩ (.slice (some ⟨g3, 0, none⟩) (ms.length + 1) cap3)).heap[g]? = some (.cells cur t (0, 0)) := by
        rw [Below.heap_setCell _ _ _ _ HGn.out]; exact hG3
      refine ⟨rfl, (hK3.setO hnum3 (by have := HL.out; omega) (fun h => h.1 rfl) _).set _, ⟨.slice (some ⟨g3, 0, none⟩) (ms.length + 1) cap3, ?_⟩, ?_⟩
      · rw [eS.out, seen, if_neg HM.out]
        exact hN3.set hG4 ht _
      · rw [eV.out, idx_new HM.out]
        exact block_set hG4 _
  · have eV : Hid (mV ms v = v) := by
      show mV ms v = v
      unfold mV; rw [if_neg h4]
    have eS : Hid (mS ms v = ms) := by
      show mS ms v = ms
      unfold mS; rw [if_neg h4]
    have hcs : Hid (cur.setIfInBounds (off + 1) (.int .i64 v.n) = cur) := by
      show cur.setIfInBounds (off + 1) (.int .i64 v.n) = cur
      apply Array.ext_getElem?
      intro i
      by_cases e : i = off + 1
      · subst e
        rw [set_self _ (by rcases Nat.lt_or_ge (off + 1) cur.size with h | h; exact h; rw [Array.getElem?_eq_none h] at hn; cases hn), hn]
      · rw [set_else _ e]
    go_enter Tryz.func62, Tryz.ntmps62
    go_wp2
    refine bodyPost_ret (results_none rfl _ _ _) rfl ?_
    exact ⟨rfl, Kp.refl _ _ _, ⟨mv, by rw [eS.out]; exact hN⟩, by rw [eV.out, hcs.out]; exact hg⟩
end Go.Proofs.YtcebgbcgkkfedaaGreat
