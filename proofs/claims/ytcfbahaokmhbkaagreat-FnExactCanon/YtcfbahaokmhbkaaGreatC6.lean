/-
  A state that is owned: which blocks hold its parts. Copies of values.
-/
import Derived.Test.YtcfbahaokmhbkaaGreatKC7
import Derived.Test.YtcfbahaokmhbkaaGreatN5
namespace Go.Proofs.YtcfbahaokmhbkaaGreat
open Go.RowKit

set_option maxHeartbeats 1000000 in
theorem eachV_is (a : Option Addr) (vs : List Vl) (cap : Nat) (w : World) (hs : ValsSmall vs) (hm : ValsAt w 0 a vs) :
    Calls Tryz.prog 129 #[.slice a vs.length cap, .func (.func 106) #[] #[]] w fun e w' => e = .returned (.slice (some ⟨w.heap.size, 0, none⟩) vs.length vs.length) ∧ ValsIs w' w.heap.size vs ∧ Below w.heap.size w w' := by
  obtain ⟨hn, hc⟩ := hs
  obtain ⟨i0, hi, hz0, hz1, hz2⟩ := info_parts info36
  go_enter Tryz.func129, Tryz.ntmps129
  go_wp2_with (first | (at_make; refine wpList_make_full _ rfl _ _ 88 rfl w.heap.size 36 i0 (.agg #[.int .i64 0, .int .i64 0, .string ByteArray.empty]) 3 Tryz.underlying88 hi hz0 hz1 _ _ _ _ vs.length rfl rfl rfl rfl (by rw [hz2]; omega) (by unfold maxLen; omega) (Nat.le_refl _) ?_; intro w1 hown hgrow))
  obtain ⟨cur0, hblk, hsz⟩ := made_block hown
  have hb0 : Below w.heap.size w w1 := (Below.refl _ _).grown hgrow (Nat.le_refl _) (by intro k hk; cases hk)
  clear hown hgrow hi hz0 hz1 hz2
  go_loopw [13] (fun i wr => ∃ (k : Nat) (cur : Array Value), k ≤ vs.length ∧ i = .int .i64 k ∧ wr.heap[w.heap.size]? = some (.cells cur 36 (0, 0)) ∧ cur.size = vs.length * 3 ∧ (∀ j (hj : j < vs.length), j < k → cur[j * 3]? = some (.int .i64 vs[j].k) ∧ cur[j * 3 + 1]? = some (.int .i64 vs[j].n) ∧ cur[j * 3 + 2]? = some (.string vs[j].s)) ∧ Below w.heap.size w wr) (fun i _ => vs.length - (intOf i).toNat)
  case atStart => exact ⟨0, cur0, by omega, rfl, hblk, hsz, fun j _ h => by omega, hb0⟩
  case round =>
    obtain ⟨k, cur, hk, rfl, hblk, hsz, hdone, hb⟩ := hrel
    by_cases hlt : k < vs.length
    · obtain ⟨b, off, rfl, -, c1, c2, c3⟩ := hm k hlt
      have c1' := cell_later hb c1
      have c2' := cell_later hb c2
      have c3' := cell_later hb c3
      clear c1 c2 c3
      have hck := hc vs[k] (List.getElem_mem hlt)
      have hblkA := block_old hblk (.cells #[.int .i64 vs[k].k, .int .i64 vs[k].n, .string vs[k].s] 36)
      have hbA := hb.alloc hb.size (.cells #[.int .i64 vs[k].k, .int .i64 vs[k].n, .string vs[k].s] 36)
      go_wp2_with fail
      refine (ownValue_any _ _ _ _ hck).mono ?_
      rintro e w2 ⟨rfl, hb2⟩
      have hblk2 := block_kept hblkA hb2
      have hfz := block_free hblk2
      have hcl : w2.cell? ⟨w.heap.size, k * 3, none⟩ = some cur[k * 3] := by rw [block_cell hblk2]; simp
      have hcl2 : w2.cell? ⟨w.heap.size, k * 3 + 1, none⟩ = some cur[k * 3 + 1] := by rw [block_cell hblk2]; simp
      have hcl3 : w2.cell? ⟨w.heap.size, k * 3 + 2, none⟩ = some cur[k * 3 + 2] := by rw [block_cell hblk2]; simp
      have hb3 : Below w.heap.size w w2 := hbA.trans (hb2.mono hbA.size)
      go_wp2
      go_roundw
      case rel =>
        refine ⟨k + 1, ((cur.setIfInBounds (k * 3) (.int .i64 vs[k].k)).setIfInBounds (k * 3 + 1) (.int .i64 vs[k].n)).setIfInBounds (k * 3 + 2) (.string vs[k].s), by omega, by go_num, block_set (block_set (block_set hblk2 _) _) _, by simpa using hsz, ?_, ((hb3.setCell (Nat.le_refl _) _).setCell (Nat.le_refl _) _).setCell (Nat.le_refl _) _⟩
        intro j hj hjk
        by_cases e : j = k
        · subst e
          refine ⟨?_, ?_, ?_⟩
          · rw [set_else _ (by omega), set_else _ (by omega)]; exact set_self _ (by omega)
          · rw [set_else _ (by omega)]; exact set_self _ (by simp; omega)
          · exact set_self _ (by simp; omega)
        · obtain ⟨d1, d2, d3⟩ := hdone j hj (by omega)
          refine ⟨?_, ?_, ?_⟩
          · rw [set_else _ (by omega), set_else _ (by omega), set_else _ (by omega)]; exact d1
          · rw [set_else _ (by omega), set_else _ (by omega), set_else _ (by omega)]; exact d2
          · rw [set_else _ (by omega), set_else _ (by omega), set_else _ (by omega)]; exact d3
      case measure => simp [intOf]; omega
    · go_wp2
      go_ret
      refine ⟨rfl, ?_, hb⟩
      exact ValsIs.of (lo := 0) (fun j hj => by
        obtain ⟨d1, d2, d3⟩ := hdone j hj (by omega)
        exact ⟨w.heap.size, 0, rfl, Nat.zero_le _, by rw [block_cell hblk, Nat.zero_add]; exact d1, by rw [block_cell hblk, Nat.zero_add]; exact d2, by rw [block_cell hblk, Nat.zero_add]; exact d3⟩) ⟨cur, hblk, hsz⟩

set_option maxHeartbeats 1000000 in
theorem ownValues_is (a : Option Addr) (vs : List Vl) (cap : Nat) (w : World) (hs : ValsSmall vs) (hm : ValsAt w 0 a vs) :
    Calls Tryz.prog 102 #[.slice a vs.length cap] w fun e w' => e = .returned (.slice (some ⟨w.heap.size, 0, none⟩) vs.length vs.length) ∧ ValsIs w' w.heap.size vs ∧ Below w.heap.size w w' := by
  go_enter Tryz.func102, Tryz.ntmps102
  go_wp2_with fail
  refine (eachV_is a vs cap w hs hm).mono ?_
  rintro e w1 ⟨rfl, h1, h2⟩
  have H : Hid (ValsIs w1 w.heap.size vs ∧ Below w.heap.size w w1) := ⟨h1, h2⟩
  clear h1 h2
  go_wp2
  go_ret
  exact ⟨rfl, H.out.1, H.out.2⟩

/-- The cells of frames of which the first k are there. -/
def FrCells (cur : Array Value) (la sa : Nat → Nat) (fr : List Fr) (k : Nat) : Prop := cur.size = fr.length * 4 ∧ ∀ i (h : i < fr.length), i < k → cur[i * 4]? = some (.int .i64 fr[i].fn) ∧ cur[i * 4 + 1]? = some (.int .i64 fr[i].pc) ∧
  cur[i * 4 + 2]? = some (.slice (some ⟨la i, 0, none⟩) fr[i].locals.length fr[i].locals.length) ∧ cur[i * 4 + 3]? = some (.slice (some ⟨sa i, 0, none⟩) fr[i].stack.length fr[i].stack.length)

/-- The values of the first k frames lie in blocks of their own, from B on. -/
structure FrVals (w : World) (B : Nat) (la sa : Nat → Nat) (fr : List Fr) (k : Nat) : Prop where
  loc : ∀ i (h : i < fr.length), i < k → ValsIs w (la i) fr[i].locals
  stk : ∀ i (h : i < fr.length), i < k → ValsIs w (sa i) fr[i].stack
  lob : ∀ i, i < k → B ≤ la i
  sob : ∀ i, i < k → B ≤ sa i
  li : ∀ i j, i < k → j < k → la i = la j → i = j
  si : ∀ i j, i < k → j < k → sa i = sa j → i = j
  ls : ∀ i j, i < k → j < k → la i ≠ sa j

/-- The fields of the first k records lie in blocks of their own, from B on. -/
structure ReVals (w : World) (B : Nat) (rb : Nat → Nat) (hp : List (List Vl)) (k : Nat) : Prop where
  fld : ∀ i (h : i < hp.length), i < k → ValsIs w (rb i) hp[i]
  rob : ∀ i, i < k → B ≤ rb i
  ri : ∀ i j, i < k → j < k → rb i = rb j → i = j
def ReCells (cur : Array Value) (rb : Nat → Nat) (hp : List (List Vl)) (k : Nat) : Prop := cur.size = hp.length ∧ ∀ i (h : i < hp.length), i < k → cur[i]? = some (.slice (some ⟨rb i, 0, none⟩) hp[i].length hp[i].length)
def OuCells (cur : Array Value) (ss : List ByteArray) (k : Nat) : Prop := cur.size = ss.length ∧ ∀ i (h : i < ss.length), i < k → cur[i]? = some (.string ss[i])

theorem FrVals.kept {w w' : World} {B k : Nat} {la sa : Nat → Nat} {fr : List Fr} (h : FrVals w B la sa fr k) (hb : ∀ b vs, B ≤ b → ValsIs w b vs → ValsIs w' b vs) : FrVals w' B la sa fr k :=
  ⟨fun i hi hk => hb _ _ (h.lob i hk) (h.loc i hi hk), fun i hi hk => hb _ _ (h.sob i hk) (h.stk i hi hk), h.lob, h.sob, h.li, h.si, h.ls⟩
theorem ReVals.kept {w w' : World} {B k : Nat} {rb : Nat → Nat} {hp : List (List Vl)} (h : ReVals w B rb hp k) (hb : ∀ b vs, B ≤ b → ValsIs w b vs → ValsIs w' b vs) : ReVals w' B rb hp k :=
  ⟨fun i hi hk => hb _ _ (h.rob i hk) (h.fld i hi hk), h.rob, h.ri⟩

/-- One more. -/
def upd (f : Nat → Nat) (k g : Nat) : Nat → Nat := fun i => if i = k then g else f i
theorem upd_self (f : Nat → Nat) (k g : Nat) : upd f k g k = g := if_pos rfl
theorem upd_else {f : Nat → Nat} {k g i : Nat} (h : i ≠ k) : upd f k g i = f i := if_neg h

theorem FrVals.more {w : World} {B k g1 g2 : Nat} {la sa : Nat → Nat} {fr : List Fr} (h : FrVals w B la sa fr k) (hk : k < fr.length) (h1 : ValsIs w g1 fr[k].locals) (h2 : ValsIs w g2 fr[k].stack) (hB1 : B ≤ g1) (hB2 : B ≤ g2) (h12 : g1 ≠ g2)
    (hn : ∀ i, i < k → la i ≠ g1 ∧ la i ≠ g2 ∧ sa i ≠ g1 ∧ sa i ≠ g2) : FrVals w B (upd la k g1) (upd sa k g2) fr (k + 1) := by
  have c : ∀ i, i < k + 1 → i = k ∨ (i ≠ k ∧ i < k) := fun i hi => by omega
  refine ⟨fun i hi hk => ?_, fun i hi hk => ?_, fun i hk => ?_, fun i hk => ?_, fun i j hi hj e => ?_, fun i j hi hj e => ?_, fun i j hi hj e => ?_⟩
  · rcases c i hk with rfl | ⟨hne, hlt⟩
    · rw [upd_self]; exact h1
    · rw [upd_else hne]; exact h.loc i hi hlt
  · rcases c i hk with rfl | ⟨hne, hlt⟩
    · rw [upd_self]; exact h2
    · rw [upd_else hne]; exact h.stk i hi hlt
  · rcases c i hk with rfl | ⟨hne, hlt⟩
    · rw [upd_self]; exact hB1
    · rw [upd_else hne]; exact h.lob i hlt
  · rcases c i hk with rfl | ⟨hne, hlt⟩
    · rw [upd_self]; exact hB2
    · rw [upd_else hne]; exact h.sob i hlt
  · rcases c i hi with rfl | ⟨hne, hlt⟩ <;> rcases c j hj with rfl | ⟨hne2, hlt2⟩
    · rfl
    · rw [upd_self, upd_else hne2] at e; exact absurd e.symm (hn j hlt2).1
    · rw [upd_self, upd_else hne] at e; exact absurd e (hn i hlt).1
    · rw [upd_else hne, upd_else hne2] at e; exact h.li i j hlt hlt2 e
  · rcases c i hi with rfl | ⟨hne, hlt⟩ <;> rcases c j hj with rfl | ⟨hne2, hlt2⟩
    · rfl
    · rw [upd_self, upd_else hne2] at e; exact absurd e.symm (hn j hlt2).2.2.2
    · rw [upd_self, upd_else hne] at e; exact absurd e (hn i hlt).2.2.2
    · rw [upd_else hne, upd_else hne2] at e; exact h.si i j hlt hlt2 e
  · rcases c i hi with rfl | ⟨hne, hlt⟩ <;> rcases c j hj with rfl | ⟨hne2, hlt2⟩
    · rw [upd_self, upd_self] at e; exact h12 e
    · rw [upd_self, upd_else hne2] at e; exact (hn j hlt2).2.2.1 e.symm
    · rw [upd_self, upd_else hne] at e; exact (hn i hlt).2.1 e
    · rw [upd_else hne, upd_else hne2] at e; exact h.ls i j hlt hlt2 e
theorem ReVals.more {w : World} {B k g : Nat} {rb : Nat → Nat} {hp : List (List Vl)} (h : ReVals w B rb hp k) (hk : k < hp.length) (h1 : ValsIs w g hp[k]) (hB : B ≤ g) (hn : ∀ i, i < k → rb i ≠ g) : ReVals w B (upd rb k g) hp (k + 1) := by
  have c : ∀ i, i < k + 1 → i = k ∨ (i ≠ k ∧ i < k) := fun i hi => by omega
  refine ⟨fun i hi hk => ?_, fun i hk => ?_, fun i j hi hj e => ?_⟩
  · rcases c i hk with rfl | ⟨hne, hlt⟩
    · rw [upd_self]; exact h1
    · rw [upd_else hne]; exact h.fld i hi hlt
  · rcases c i hk with rfl | ⟨hne, hlt⟩
    · rw [upd_self]; exact hB
    · rw [upd_else hne]; exact h.rob i hlt
  · rcases c i hi with rfl | ⟨hne, hlt⟩ <;> rcases c j hj with rfl | ⟨hne2, hlt2⟩
    · rfl
    · rw [upd_self, upd_else hne2] at e; exact absurd e.symm (hn j hlt2)
    · rw [upd_self, upd_else hne] at e; exact absurd e (hn i hlt)
    · rw [upd_else hne, upd_else hne2] at e; exact h.ri i j hlt hlt2 e

theorem FrCells.more {cur : Array Value} {la sa : Nat → Nat} {fr : List Fr} {k g1 g2 : Nat} (h : FrCells cur la sa fr k) (hk : k < fr.length) :
    FrCells ((((cur.setIfInBounds (k * 4) (.int .i64 fr[k].fn)).setIfInBounds (k * 4 + 1) (.int .i64 fr[k].pc)).setIfInBounds (k * 4 + 2) (.slice (some ⟨g1, 0, none⟩) fr[k].locals.length fr[k].locals.length)).setIfInBounds (k * 4 + 3) (.slice (some ⟨g2, 0, none⟩) fr[k].stack.length fr[k].stack.length)) (upd la k g1) (upd sa k g2) fr (k + 1) := by
  refine ⟨by simpa using h.1, fun i hi hik => ?_⟩
  have hs := h.1
  by_cases e : i = k
  · subst e
    rw [upd_self, upd_self]
    refine ⟨?_, ?_, ?_, ?_⟩
    · rw [set_else _ (by omega), set_else _ (by omega), set_else _ (by omega)]; exact set_self _ (by omega)
    · rw [set_else _ (by omega), set_else _ (by omega)]; exact set_self _ (by simp; omega)
    · rw [set_else _ (by omega)]; exact set_self _ (by simp; omega)
    · exact set_self _ (by simp; omega)
  · rw [upd_else e, upd_else e]
    obtain ⟨d1, d2, d3, d4⟩ := h.2 i hi (by omega)
    refine ⟨?_, ?_, ?_, ?_⟩
    · rw [set_else _ (by omega), set_else _ (by omega), set_else _ (by omega), set_else _ (by omega)]; exact d1
    · rw [set_else _ (by omega), set_else _ (by omega), set_else _ (by omega), set_else _ (by omega)]; exact d2
    · rw [set_else _ (by omega), set_else _ (by omega), set_else _ (by omega), set_else _ (by omega)]; exact d3
    · rw [set_else _ (by omega), set_else _ (by omega), set_else _ (by omega), set_else _ (by omega)]; exact d4
theorem ReCells.more {cur : Array Value} {rb : Nat → Nat} {hp : List (List Vl)} {k g : Nat} (h : ReCells cur rb hp k) (hk : k < hp.length) :
    ReCells (cur.setIfInBounds k (.slice (some ⟨g, 0, none⟩) hp[k].length hp[k].length)) (upd rb k g) hp (k + 1) := by
  refine ⟨by simpa using h.1, fun i hi hik => ?_⟩
  have hs := h.1
  by_cases e : i = k
  · subst e
    rw [upd_self]
    exact set_self _ (by omega)
  · rw [upd_else e, set_else _ e]
    exact h.2 i hi (by omega)
theorem OuCells.more {cur : Array Value} {ss : List ByteArray} {k : Nat} (h : OuCells cur ss k) (hk : k < ss.length) : OuCells (cur.setIfInBounds k (.string ss[k])) ss (k + 1) := by
  refine ⟨by simpa using h.1, fun i hi hik => ?_⟩
  have hs := h.1
  by_cases e : i = k
  · subst e
    exact set_self _ (by omega)
  · rw [set_else _ e]
    exact h.2 i hi (by omega)
end Go.Proofs.YtcfbahaokmhbkaaGreat
