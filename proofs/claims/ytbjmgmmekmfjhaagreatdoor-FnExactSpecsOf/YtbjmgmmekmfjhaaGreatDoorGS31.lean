/-
Rows of guesses that a call makes: comparing them, marks in them, and what impl.rising makes of one.
-/
import Derived.Test.YtbjmgmmekmfjhaaGreatDoorGS30
import Derived.Test.YtbjmgmmekmfjhaaGreatDoorGS4
import Derived.Test.YtbjmgmmekmfjhaaGreatDoorGS27
import Derived.Test.YtbjmgmmekmfjhaaGreatDoorGS20
import Derived.Deep.RegionWith
namespace Go.Proofs.YtbjmgmmekmfjhaaGreatDoor
set_option maxRecDepth 100000
open Go.RowKit Go.Sort Go.Lib
set_option maxHeartbeats 1000000 in
theorem eqSpecS_any (a a2 : Option Addr) (ss : List Si) (cap cap2 : Nat) (w : World) (hn : ss.length ≤ 1048576) (hm : SitesAt w 0 a ss) (hm2 : SitesAt w 0 a2 ss) :
  Calls Tryz.prog 13 #[.slice a ss.length cap, .slice a2 ss.length cap2] w fun e w' => e = .returned (.bool true) ∧ Below w.heap.size w w' := by
 go_enter Tryz.func13, Tryz.ntmps13
 go_wp2
 go_loopw [5] (fun i wr => ∃ (k : Nat), k ≤ ss.length ∧ i = .int .i64 k ∧ Below w.heap.size w wr) (fun i _ => ss.length - (intOf i).toNat)
 case atStart => exact ⟨0, by omega, rfl, Below.refl _ _⟩
 case round =>
  obtain ⟨k, hk, rfl, hb⟩ := hrel
  by_cases hlt : k < ss.length
  ·
   obtain ⟨b, off, rfl, -, c1, d1, e1, f1⟩ := hm k hlt
   obtain ⟨b2, off2, rfl, -, c2, d2, e2, f2⟩ := hm2 k hlt
   have c1' := cell_later hb c1
   have c2' := cell_later hb c2
   have d1' := cell_later hb d1
   have d2' := cell_later hb d2
   have e1' := cell_later hb e1
   have e2' := cell_later hb e2
   have f1' := cell_later hb f1
   have f2' := cell_later hb f2
   clear c1 c2 d1 d2 e1 e2 f1 f2
   go_wp2
   go_region_with (go_at_call 58; refine (eqSpec_same _ _ _ _ _).mono ?_; rintro e w1 ⟨rfl, hb1⟩)
   all_goals
    go_wp2
    go_roundw
    case rel =>
     refine ⟨k + 1, by omega, by go_num, Below.trans ?_ (hb1.mono ?_)⟩
     · repeat (first | exact hb | apply Below.drew)
     · exact hb.size
    case measure => simp [intOf]; omega
  ·
   go_wp2
   go_ret
   exact ⟨rfl, hb⟩
structure But (g : Nat) (w w' : World) : Prop where
 os : w'.os = w.os
 tape : w'.tape = w.tape
 output : w'.output = w.output
 size : w.heap.size ≤ w'.heap.size
 block : ∀ k, k < w.heap.size → k ≠ g → w'.heap[k]? = w.heap[k]?
theorem But.refl (g : Nat) (w : World) : But g w w := ⟨rfl, rfl, rfl, Nat.le_refl _, fun _ _ _ => rfl⟩
theorem But.trans {g : Nat} {a b c : World} (h : But g a b) (k : But g b c) : But g a c :=
 ⟨k.os.trans h.os, k.tape.trans h.tape, k.output.trans h.output, Nat.le_trans h.size k.size, fun i hi hg => (k.block i (Nat.lt_of_lt_of_le hi h.size) hg).trans (h.block i hi hg)⟩
theorem But.below {g B : Nat} {a w w' : World} (hb : Below B a w) (h : But g w w') (hg : B ≤ g) (hB : B ≤ w.heap.size) : Below B a w' :=
 ⟨h.os.trans hb.os, h.tape.trans hb.tape, h.output.trans hb.output, Nat.le_trans hb.size h.size, fun k hk => (h.block k (by omega) (by omega)).trans (hb.block k hk)⟩
theorem But.kept {g k : Nat} {w w' : World} {o : Obj} (h : But g w w') (hk : k ≠ g) (ho : w.heap[k]? = some o) : w'.heap[k]? = some o := (h.block k (lt_block ho) hk).trans ho
def Marked (w : World) (g t n : Nat) (k0 : Int) : Prop := ∃ cur : Array Value, w.heap[g]? = some (.cells cur t (0, 0)) ∧ ∀ j, j < n → cur[j * 4]? = some (.int .i64 (k0 + 4 * j)) ∧ cur[j * 4 + 1]? = some (.int .i64 (k0 + 4 * j + 1)) ∧ cur[j * 4 + 2]? = some (.int .i64 (k0 + 4 * j + 2)) ∧ cur[j * 4 + 3]? = some (.int .i64 (k0 + 4 * j + 3))
theorem Marked.mono {w w' : World} {g t n : Nat} {k0 : Int} (h : Marked w g t n k0) (hb : Below w.heap.size w w') : Marked w' g t n k0 := by
 obtain ⟨cur, h1, h2⟩ := h
 exact ⟨cur, block_kept h1 hb, h2⟩
set_option maxHeartbeats 1000000 in
theorem markSpecs_any (g n cap : Nat) (k0 : Int) (w : World) (hn : n ≤ 1048576) (h0 : 0 ≤ k0) (h1 : k0 ≤ 100000000000000) (hb : ∃ cur, w.heap[g]? = some (.cells cur 97 (0, 0)) ∧ n * 4 ≤ cur.size) :
  Calls Tryz.prog 18 #[.slice (some ⟨g, 0, none⟩) n cap, .int .i64 k0] w fun e w' => e = .returned (.int .i64 (k0 + 4 * n)) ∧ But g w w' ∧ Marked w' g 97 n k0 := by
 obtain ⟨cur0, hb0, hs0⟩ := hb
 go_enter Tryz.func18, Tryz.ntmps18
 go_wp2
 go_loopw [1, 5] (fun q i wr => ∃ (k : Nat), k ≤ n ∧ i = .int .i64 k ∧ q = .int .i64 (k0 + 4 * k) ∧ Hid (But g w wr) ∧ Hid (∃ cur, wr.heap[g]? = some (.cells cur 97 (0, 0)) ∧ n * 4 ≤ cur.size ∧ ∀ j, j < k → cur[j * 4]? = some (.int .i64 (k0 + 4 * j)) ∧ cur[j * 4 + 1]? = some (.int .i64 (k0 + 4 * j + 1)) ∧ cur[j * 4 + 2]? = some (.int .i64 (k0 + 4 * j + 2)) ∧ cur[j * 4 + 3]? = some (.int .i64 (k0 + 4 * j + 3)))) (fun _ i _ => n - (intOf i).toNat)
 case atStart => exact ⟨0, by omega, rfl, by go_num, But.refl _ _, cur0, hb0, hs0, fun j hj => absurd hj (by omega)⟩
 case round =>
  obtain ⟨k, hk, rfl, rfl, HB, HC⟩ := hrel
  by_cases hlt : k < n
  ·
   obtain ⟨cur, hblk, hsz, hdone⟩ := HC.out
   have hfz := block_free hblk
   have c0 : wr.cell? ⟨g, k * 4, none⟩ = some cur[k * 4] := by rw [block_cell hblk]; simp
   have c1 : wr.cell? ⟨g, k * 4 + 1, none⟩ = some cur[k * 4 + 1] := by rw [block_cell hblk]; simp
   have c2 : wr.cell? ⟨g, k * 4 + 2, none⟩ = some cur[k * 4 + 2] := by rw [block_cell hblk]; simp
   have c3 : wr.cell? ⟨g, k * 4 + 3, none⟩ = some cur[k * 4 + 3] := by rw [block_cell hblk]; simp
   have HBLK := hids hblk
   have HSZ := hids hsz
   have HDN := hids hdone
   clear hdone HC
   go_wp2
   go_roundw
   case rel =>
    refine ⟨k + 1, by omega, by go_num, by go_num, ?_, ?_⟩
    ·
     refine HB.out.trans ⟨?_, ?_, ?_, ?_, fun j _ hj => ?_⟩
     · rfl
     · rfl
     · rfl
     · simp
     · rw [Below.heap_setCell _ _ _ _ (by simpa using hj), Below.heap_setCell _ _ _ _ (by simpa using hj), Below.heap_setCell _ _ _ _ (by simpa using hj), Below.heap_setCell _ _ _ _ (by simpa using hj)]
    ·
     refine ⟨_, block_set (block_set (block_set (block_set HBLK.out _) _) _) _, by simpa using HSZ.out, fun j hj => ?_⟩
     have hsz := HSZ.out
     by_cases e : j = k
     ·
      subst e
      refine ⟨?_, ?_, ?_, ?_⟩
      · rw [set_else _ (by omega), set_else _ (by omega), set_else _ (by omega), set_self _ (by omega)]
      · rw [set_else _ (by omega), set_else _ (by omega), set_self _ (by simp; omega)] <;> (congr 2 <;> first | omega | (go_num))
      · rw [set_else _ (by omega), set_self _ (by simp; omega)] <;> (congr 2 <;> first | omega | (go_num))
      · rw [set_self _ (by simp; omega)] <;> (congr 2 <;> first | omega | (go_num))
     ·
      obtain ⟨e1, e2, e3, e4⟩ := HDN.out j (by omega)
      refine ⟨?_, ?_, ?_, ?_⟩
      · rw [set_else _ (by omega), set_else _ (by omega), set_else _ (by omega), set_else _ (by omega)]; exact e1
      · rw [set_else _ (by omega), set_else _ (by omega), set_else _ (by omega), set_else _ (by omega)]; exact e2
      · rw [set_else _ (by omega), set_else _ (by omega), set_else _ (by omega), set_else _ (by omega)]; exact e3
      · rw [set_else _ (by omega), set_else _ (by omega), set_else _ (by omega), set_else _ (by omega)]; exact e4
   case measure => simp [intOf]; omega
  ·
   go_wp2
   go_ret
   obtain ⟨cur, hblk, hsz, hdone⟩ := HC.out
   exact ⟨ret_int (by omega), HB.out, cur, hblk, fun j hj => hdone j (by omega)⟩
set_option maxHeartbeats 1000000 in
theorem heldSpecs_any (g n cap : Nat) (k0 : Int) (w : World) (hn : n ≤ 1048576) (h0 : 0 ≤ k0) (h1 : k0 ≤ 100000000000000) (hb : Marked w g 97 n k0) :
  Calls Tryz.prog 19 #[.slice (some ⟨g, 0, none⟩) n cap, .int .i64 k0] w fun e w' => e = .returned (.int .i64 (k0 + 4 * n)) ∧ Below w.heap.size w w' := by
 obtain ⟨cur, hblk, hmk⟩ := hb
 go_enter Tryz.func19, Tryz.ntmps19
 go_wp2
 go_loopw [1, 5] (fun q i wr => ∃ (k : Nat), k ≤ n ∧ i = .int .i64 k ∧ q = .int .i64 (k0 + 4 * k) ∧ Below w.heap.size w wr) (fun _ i _ => n - (intOf i).toNat)
 case atStart => exact ⟨0, by omega, rfl, by go_num, Below.refl _ _⟩
 case round =>
  obtain ⟨k, hk, rfl, rfl, hbr⟩ := hrel
  by_cases hlt : k < n
  ·
   obtain ⟨e1, e2, e3, e4⟩ := hmk k hlt
   have hbk := block_cell (block_kept hblk hbr)
   have c0 : wr.cell? ⟨g, k * 4, none⟩ = some (.int .i64 (k0 + 4 * k)) := by rw [hbk]; exact e1
   have c1 : wr.cell? ⟨g, k * 4 + 1, none⟩ = some (.int .i64 (k0 + 4 * k + 1)) := by rw [hbk]; exact e2
   have c2 : wr.cell? ⟨g, k * 4 + 2, none⟩ = some (.int .i64 (k0 + 4 * k + 2)) := by rw [hbk]; exact e3
   have c3 : wr.cell? ⟨g, k * 4 + 3, none⟩ = some (.int .i64 (k0 + 4 * k + 3)) := by rw [hbk]; exact e4
   clear e1 e2 e3 e4 hbk
   go_wp2
   go_roundw
   case rel => exact ⟨k + 1, by omega, by go_num, by go_num, hbr⟩
   case measure => simp [intOf]; omega
  ·
   go_wp2
   go_ret
   exact ⟨ret_int (by omega), hbr⟩
theorem markNone (c : Nat) (a : Option Addr) (k0 : Int) (w : World) : Calls Tryz.prog 18 #[.slice a 0 c, .int .i64 k0] w fun e w' => e = .returned (.int .i64 k0) ∧ w' = w := by
 go_enter Tryz.func18, Tryz.ntmps18
 go_wp2
 go_loopw [1, 5] (fun q i wr => q = .int .i64 k0 ∧ i = .int .i64 0 ∧ wr = w) (fun _ _ _ => 0)
 case atStart => exact ⟨rfl, rfl, rfl⟩
 case round =>
  obtain ⟨rfl, rfl, rfl⟩ := hrel
  go_wp2
  go_ret
  exact ⟨rfl, rfl⟩
theorem heldNone (c : Nat) (a : Option Addr) (k0 : Int) (w : World) : Calls Tryz.prog 19 #[.slice a 0 c, .int .i64 k0] w fun e w' => e = .returned (.int .i64 k0) ∧ w' = w := by
 go_enter Tryz.func19, Tryz.ntmps19
 go_wp2
 go_loopw [1, 5] (fun q i wr => q = .int .i64 k0 ∧ i = .int .i64 0 ∧ wr = w) (fun _ _ _ => 0)
 case atStart => exact ⟨rfl, rfl, rfl⟩
 case round =>
  obtain ⟨rfl, rfl, rfl⟩ := hrel
  go_wp2
  go_ret
  exact ⟨rfl, rfl⟩
def flat4 (ss : List Si) : List Value := ss.flatMap encS
theorem flat4_app (a b : List Si) : flat4 (a ++ b) = flat4 a ++ flat4 b := by unfold flat4; rw [List.flatMap_append]
theorem flat4_one (s : Si) : flat4 [s] = [.int .i64 s.f, .int .i64 s.pc, .int .i64 s.seen, .int .i64 s.target] := by simp [flat4, encS]
theorem flat4_len : ∀ ss : List Si, (flat4 ss).length = ss.length * 4
 | [] => rfl
 | s :: ss => by
  have := flat4_len ss
  unfold flat4 at this ⊢
  rw [List.flatMap_cons, List.length_append, List.length_cons, this]
  simp [encS]
  omega
theorem flat4_at : ∀ (ss : List Si) (i : Nat) (h : i < ss.length), (flat4 ss)[i * 4]? = some (.int .i64 ss[i].f) ∧ (flat4 ss)[i * 4 + 1]? = some (.int .i64 ss[i].pc) ∧ (flat4 ss)[i * 4 + 2]? = some (.int .i64 ss[i].seen) ∧ (flat4 ss)[i * 4 + 3]? = some (.int .i64 ss[i].target)
 | [], i, h => by simp at h
 | s :: ss, 0, _ => by simp [flat4, encS]
 | s :: ss, i + 1, h => by
  have := flat4_at ss i (by simpa using h)
  have e : flat4 (s :: ss) = [.int .i64 s.f, .int .i64 s.pc, .int .i64 s.seen, .int .i64 s.target] ++ flat4 ss := by simp [flat4, encS]
  rw [e, show (i + 1) * 4 = i * 4 + 4 by omega]
  simp only [List.getElem_cons_succ]
  refine ⟨?_, ?_, ?_, ?_⟩
  · rw [List.getElem?_append_right (by simp)]; simpa using this.1
  · rw [List.getElem?_append_right (by simp)]; simpa using this.2.1
  · rw [List.getElem?_append_right (by simp)]; simpa using this.2.2.1
  · rw [List.getElem?_append_right (by simp)]; simpa using this.2.2.2
theorem own_St {w : World} {base g cap : Nat} {l : List Si} (h : w.ownsRow base 97 4 (.slice (some ⟨g, 0, none⟩) l.length cap) l.length (flat4 l)) : St w g cap l.toArray ∧ base ≤ g := by
 rcases h.2 with ⟨e, -⟩ | ⟨b, cp, cur, e, hb, hh, h1, h2, h3, h4⟩
 · cases e
 ·
  cases e
  refine ⟨⟨cur, hh, h3, by simpa using h1, fun j hj => ?_⟩, hb⟩
  have hj' : j < l.length := by simpa using hj
  obtain ⟨f1, f2, f3, f4⟩ := flat4_at l j hj'
  have hc : ∀ i v, (flat4 l)[i]? = some v → cur[i]? = some v := fun i v hi => by
   rw [← Array.getElem?_toList]
   rw [← h4] at hi
   rw [List.getElem?_take] at hi
   split at hi
   · exact hi
   · cases hi
  rw [getElem!_pos l.toArray j hj]
  simp only [List.getElem_toArray]
  exact ⟨hc _ _ f1, hc _ _ f2, hc _ _ f3, hc _ _ f4⟩
def SSl (w : World) (B : Nat) (v : Value) (l : List Si) : Prop := (l = [] ∧ ∃ a c, v = .slice a 0 c) ∨ ∃ g cap, v = .slice (some ⟨g, 0, none⟩) l.length cap ∧ B ≤ g ∧ St w g cap l.toArray
theorem St.sites {w : World} {g cap : Nat} {l : List Si} {B : Nat} (h : St w g cap l.toArray) (hB : B ≤ g) : SitesAt w B (some ⟨g, 0, none⟩) l := by
 intro i hi
 obtain ⟨q0, q1, q2, q3⟩ := h.row (j := i) (by simpa using hi)
 rw [getElem!_pos l.toArray i (by simpa using hi)] at q0 q1 q2 q3
 simp only [List.getElem_toArray] at q0 q1 q2 q3
 exact ⟨g, 0, rfl, hB, by rw [Nat.zero_add]; exact q0, by rw [Nat.zero_add]; exact q1, by rw [Nat.zero_add]; exact q2, by rw [Nat.zero_add]; exact q3⟩
theorem SSl.form {w : World} {B : Nat} {v : Value} {l : List Si} (h : SSl w B v l) : ∃ a cap, v = .slice a l.length cap ∧ SitesAt w B a l := by
 rcases h with ⟨rfl, a, c, rfl⟩ | ⟨g, cap, rfl, hB, h⟩
 · exact ⟨a, c, rfl, fun i hi => absurd hi (by simp)⟩
 · exact ⟨_, _, rfl, h.sites hB⟩
theorem SSl.sites {w : World} {B n cap : Nat} {a : Option Addr} {l : List Si} (h : SSl w B (.slice a n cap) l) : SitesAt w 0 a l := by
 obtain ⟨a', c', e, hs⟩ := h.form
 cases e
 exact hs.low (Nat.zero_le _)
theorem SSl.mono {w w' : World} {B : Nat} {v : Value} {l : List Si} (h : SSl w B v l) (hb : Below w.heap.size w w') : SSl w' B v l := by
 rcases h with h | ⟨g, cap, h1, h2, h3⟩
 · exact .inl h
 · exact .inr ⟨g, cap, h1, h2, h3.mono hb⟩
theorem SSl.low {w : World} {B B' : Nat} {v : Value} {l : List Si} (h : SSl w B v l) (hl : B' ≤ B) : SSl w B' v l := by
 rcases h with h | ⟨g, cap, h1, h2, h3⟩
 · exact .inl h
 · exact .inr ⟨g, cap, h1, by omega, h3⟩
theorem SSl.keeps {w w' : World} {B B' : Nat} {ts : List Nat} {v : Value} {l : List Si} (h : SSl w B v l) (hk : Keeps B' ts w w') (ht : 97 ∉ ts) : SSl w' B v l := by
 rcases h with h | ⟨g, cap, h1, h2, cur, q1, q2⟩
 · exact .inl h
 · exact .inr ⟨g, cap, h1, h2, cur, hk.cell q1 ht, q2⟩
def RowM (w : World) (xa : Option Addr) (n : Nat) : Prop := n = 0 ∨ ∃ g, xa = some ⟨g, 0, none⟩ ∧ Marked w g 97 n 1
theorem RowM.mono {w w' : World} {xa : Option Addr} {n : Nat} (h : RowM w xa n) (hb : Below w.heap.size w w') : RowM w' xa n := by
 rcases h with h | ⟨g, h1, h2⟩
 · exact .inl h
 · exact .inr ⟨g, h1, h2.mono hb⟩
theorem But.keeps {g B : Nat} {w w' : World} {cur : Array Value} {t : TypeId} {fr : Nat × Nat} (h : But g w w') (hb : w.heap[g]? = some (.cells cur t fr)) (hB : B ≤ g) : Keeps B [t] w w' :=
 ⟨h.os, h.tape, h.output, h.size, fun k o hk ho => by
  by_cases e : k = g
  ·
   subst e
   rw [hb] at hk
   cases hk
   rcases ho with ho | ho
   · omega
   · exact absurd (by simp [ofTypes]) ho
  · exact h.kept e hk⟩
theorem markSpecS_s (B : Nat) (a : Option Addr) (l : List Si) (cap : Nat) (w : World) (hn : l.length ≤ 1048576) (h : SSl w B (.slice a l.length cap) l) :
  Calls Tryz.prog 18 #[.slice a l.length cap, .int .i64 1] w fun e w' => e = .returned (.int .i64 (1 + 4 * (l.length : Int))) ∧ RowM w' a l.length ∧ Keeps B [97] w w' := by
 rcases h with ⟨rfl, a', c', hv⟩ | ⟨g, cp, hv, hgB, cur, q1, q2, q3, -⟩
 ·
  refine (markNone cap a 1 w).mono ?_
  rintro e w' ⟨rfl, rfl⟩
  exact ⟨by simp, .inl rfl, Keeps.refl _ _ _⟩
 ·
  cases hv
  refine (markSpecs_any g l.length cap 1 w hn (by omega) (by omega) ⟨cur, q1, by rw [q2]; have : l.length ≤ cap := (by simpa using q3); omega⟩).mono ?_
  rintro e w' ⟨rfl, hB, hM⟩
  exact ⟨rfl, .inr ⟨g, rfl, hM⟩, hB.keeps q1 hgB⟩
theorem heldSpecS_s (a : Option Addr) (n cap : Nat) (w : World) (hn : n ≤ 1048576) (h : RowM w a n) :
  Calls Tryz.prog 19 #[.slice a n cap, .int .i64 1] w fun e w' => e = .returned (.int .i64 (1 + 4 * (n : Int))) ∧ Below w.heap.size w w' := by
 rcases h with rfl | ⟨g, rfl, hM⟩
 ·
  refine (heldNone cap a 1 w).mono ?_
  rintro e w' ⟨rfl, rfl⟩
  exact ⟨by simp, Below.refl _ _⟩
 · exact heldSpecs_any g n cap 1 w hn (by omega) (by omega) hM
theorem grown_lo {w w' : World} {B g : Nat} (hg : w.grownBy w' (some g)) (h1 : B ≤ g) (h2 : B ≤ w.heap.size) : Below B w w' :=
 (Below.refl B w).grown hg h2 (fun m hm => by cases hm; exact h1)
theorem sortW_grown {w : World} {g n : Nat} {os : Array Obj} (d : Array Si) : w.grownBy (sortWorldK encS 4 w g 0 n d os) (some g) := grownBy_sorted' id (flatK encS 4 d)
set_option maxHeartbeats 400000 in
theorem compactS_short (xa : Option Addr) (cap : Nat) (w : World) : Calls Tryz.prog 106 #[.slice xa 0 cap] w fun e w' => e = .returned (.slice xa 0 cap) ∧ w' = w := by
 go_enter Tryz.func106, Tryz.ntmps106
 go_wp2
 go_ret
 exact ⟨rfl, rfl⟩
set_option maxHeartbeats 1000000 in
theorem rising_spec (B cap : Nat) (xa : Option Addr) (l : List Si) (w : World) (hB : B ≤ w.heap.size) (hn : l.length ≤ 1073741824) (hown : w.ownsRow B 97 4 (.slice xa l.length cap) l.length (flat4 l)) :
  Calls Tryz.prog 56 #[.slice xa l.length cap, .func (.func 57) #[] #[]] w fun e w' => ∃ v S, e = .returned v ∧ S.Pairwise SLt ∧ (∀ x, x ∈ S ↔ x ∈ l) ∧ S.length ≤ l.length ∧ SSl w' B v S ∧ Below B w w' := by
 by_cases h0 : l = []
 ·
  subst h0
  have hcon := AnyF.slices_SortFunc_none { Tryz.sortSpec with } xa cap (.func (.func 57) #[] #[]) w
  change Calls Tryz.prog 105 _ _ _ at hcon
  have hc2 := compactS_short xa cap w
  go_enter Tryz.func56, Tryz.ntmps56
  go_wp2_with fail
  refine hcon.mono ?_
  rintro e w1 ⟨rfl, rfl⟩
  go_wp2_with fail
  refine hc2.mono ?_
  rintro e w1 ⟨rfl, rfl⟩
  go_wp2
  go_ret
  exact ⟨_, [], rfl, List.Pairwise.nil, fun _ => Iff.rfl, Nat.le_refl _, .inl ⟨rfl, _, _, rfl⟩, Below.refl _ _⟩
 have hl0 : l.length ≠ 0 := fun q => h0 (List.eq_nil_of_length_eq_zero q)
 obtain ⟨g, hxa⟩ : ∃ g, xa = some ⟨g, 0, none⟩ := by
  rcases hown.2 with ⟨-, q⟩ | ⟨g, cap', cur, e, -⟩
  · exact absurd q hl0
  · cases e; exact ⟨g, rfl⟩
 subst hxa
 obtain ⟨hS, hg⟩ := own_St hown
 clear hown
 have eg : ∀ args w, (callFunc 57 args).run Tryz.prog w = .ok (.enter 57 args) w := enters_of Tryz.func57 (by kernel_rfl) rfl
 have hcon := AnyQ.slices_SortFunc Tryz.sortSpec 4 Tryz.isAgg97 Tryz.sizeOf97 encS (fun _ => rfl) (fun x v hv => by simp [encS] at hv; rcases hv with rfl | rfl | rfl | rfl <;> rfl) cmpS swoS 57 #[] g 0 cap l.toArray w eg (cmpLaysS g 0 _ w) hS.holds hS.lt (by simp; omega)
 change Calls Tryz.prog 105 _ _ _ at hcon
 rw [show l.toArray.size = l.length by simp] at hcon
 have HS := hids hS
 clear eg hS
 go_enter Tryz.func56, Tryz.ntmps56
 go_wp2_with fail
 refine hcon.mono ?_
 clear hcon
 rintro e w1 ⟨rfl, d', n', os, hp, hsd, rfl⟩
 have hsz : d'.size = l.length := by have := hp.1; simpa using this
 have hS1 : St (sortWorldK encS 4 w g 0 n' d' os) g cap d' := HS.out.sorted (by simp [hsz])
 have hg1 : w.grownBy (sortWorldK encS 4 w g 0 n' d' os) (some g) := sortW_grown d'
 obtain ⟨w1, hw1⟩ : ∃ w1, w1 = sortWorldK encS 4 w g 0 n' d' os := ⟨_, rfl⟩
 rw [← hw1] at hS1 hg1 ⊢
 have hc2 := compactS_any g cap d' w1 (by omega) hS1
 rw [hsz] at hc2
 obtain ⟨ca, cm, cl⟩ := compact_asc (ltOf cmpS) swoS totS d' (by rw [hsz]; simpa using hsd)
 rw [hsz] at ca cm cl
 obtain ⟨C, hC⟩ : ∃ C, C = compactUpTo d' l.length := ⟨_, rfl⟩
 rw [← hC] at hc2 ca cm cl
 have HM : Hid (∀ x, x ∈ C ↔ x ∈ l) := fun x => (cm x).trans ((perm_mem hp x).trans (by simp))
 have HA : Hid (C.Pairwise SLt) := ca.imp (fun {x y} q => by rw [ltS] at q; exact of_decide_eq_true q)
 have HG1 := hids hg1
 clear hp hsd ca cm hC hg1 hw1 hS1
 go_wp2_with fail
 refine hc2.mono ?_
 clear hc2
 rintro e w2 ⟨rfl, hS2, hg2⟩
 have HD : Hid (SSl w2 B (.slice (some ⟨g, 0, none⟩) C.length cap) C ∧ Below B w w2) := ⟨.inr ⟨g, cap, rfl, hg, hS2⟩, (grown_lo HG1.out hg hB).trans (grown_lo hg2 hg (Nat.le_trans hB HG1.out.size))⟩
 clear hS2 hg2
 go_wp2
 go_ret
 exact ⟨_, C, rfl, HA.out, HM.out, cl, HD.out.1, HD.out.2⟩
end Go.Proofs.YtbjmgmmekmfjhaaGreatDoor
