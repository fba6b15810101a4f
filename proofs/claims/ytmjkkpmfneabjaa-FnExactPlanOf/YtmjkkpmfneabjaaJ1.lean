/-
  Guesses and plans: what the laws' sizing, copying and comparing functions return of them (a guess has four numbers, as a site has).
-/
import Derived.Test.YtmjkkpmfneabjaaY1
namespace Go.Proofs.Ytmjkkpmfneabjaa
open Go.RowKit

theorem szSpecS_any (a : Option Addr) (n cap : Nat) (left : Int) (w : World) (h0 : 0 ≤ left) (h1 : left ≤ 1048576) (hn : n ≤ maxLen) :
    Calls Try.prog 18 #[.slice a n cap, .int .i64 left] w fun e w' => e = .returned (.int .i64 (if left < n then -1 else left - n)) ∧ w' = w := by
  unfold maxLen at hn
  by_cases h : left < n
  all_goals
    go_enter Try.func18, Try.ntmps18
    go_wp2
    go_ret
    exact ⟨ret_int (by omega), rfl⟩

set_option maxHeartbeats 400000 in
theorem toSpec_any (f p s t : Int) (w : World) :
    Calls Try.prog 45 #[.agg #[.int .i64 f, .int .i64 p, .int .i64 s, .int .i64 t]] w fun e w' => e = .returned (.agg #[.int .i64 f, .int .i64 p, .int .i64 s, .int .i64 t]) ∧ Below w.heap.size w w' := by
  go_enter Try.func45, Try.ntmps45
  go_wp2
  refine bodyPost_ret (v := .agg #[.int .i64 f, .int .i64 p, .int .i64 s, .int .i64 t]) (by simp [results, Try.results45, go_sem]) rfl ⟨rfl, ?_⟩
  exact (((Below.refl _ _).alloc (Nat.le_refl _) _).alloc (by simp) _).alloc (by simp; omega) _

theorem info44 : (Try.prog.info? 44).map (fun i => (i.zero, i.size, i.bytes)) = some (some (.agg #[.int .i64 0, .int .i64 0, .int .i64 0, .int .i64 0]), 4, 32) := by kernel_rfl

set_option maxHeartbeats 1000000 in
theorem toSpecS_any (a : Option Addr) (ss : List Si) (cap : Nat) (w : World) (hn : ss.length ≤ 1048576) (hm : SitesAt w 0 a ss) :
    Calls Try.prog 21 #[.slice a ss.length cap] w fun e w' => e = .returned (.slice (some ⟨w.heap.size, 0, none⟩) ss.length ss.length) ∧ SitesAt w' w.heap.size (some ⟨w.heap.size, 0, none⟩) ss ∧ Below w.heap.size w w' := by
  obtain ⟨i0, hi, hz0, hz1, hz2⟩ := info_parts info44
  go_enter Try.func21, Try.ntmps21
  go_wp2_with (first | (at_make; refine wpList_make_full _ rfl _ _ 36 rfl w.heap.size 44 i0 (.agg #[.int .i64 0, .int .i64 0, .int .i64 0, .int .i64 0]) 4 Try.underlying36 hi hz0 hz1 _ _ _ _ ss.length rfl rfl rfl rfl (by rw [hz2]; omega) (by unfold maxLen; omega) (Nat.le_refl _) ?_; intro w1 hown hgrow))
  obtain ⟨cur0, hblk, hsz⟩ := made_block hown
  have hb0 : Below w.heap.size w w1 := (Below.refl _ _).grown hgrow (Nat.le_refl _) (by intro k hk; cases hk)
  clear hown hgrow hi hz0 hz1 hz2
  go_loopw [4] (fun i wr => ∃ (k : Nat) (cur : Array Value), k ≤ ss.length ∧ i = .int .i64 k ∧ wr.heap[w.heap.size]? = some (.cells cur 44 (0, 0)) ∧ cur.size = ss.length * 4 ∧ (∀ j (hj : j < ss.length), j < k → cur[j * 4]? = some (.int .i64 ss[j].f) ∧ cur[j * 4 + 1]? = some (.int .i64 ss[j].pc) ∧ cur[j * 4 + 2]? = some (.int .i64 ss[j].seen) ∧ cur[j * 4 + 3]? = some (.int .i64 ss[j].target)) ∧ Below w.heap.size w wr) (fun i _ => ss.length - (intOf i).toNat)
  case atStart => exact ⟨0, cur0, by omega, rfl, hblk, hsz, fun j _ h => by omega, hb0⟩
  case round =>
    obtain ⟨k, cur, hk, rfl, hblk, hsz, hdone, hb⟩ := hrel
    by_cases hlt : k < ss.length
    · obtain ⟨b, off, rfl, -, c1, c2, c3, c4⟩ := hm k hlt
      have c1' := cell_later hb c1
      have c2' := cell_later hb c2
      have c3' := cell_later hb c3
      have c4' := cell_later hb c4
      clear c1 c2 c3 c4
      go_wp2_with fail
      refine (toSpec_any _ _ _ _ _).mono ?_
      rintro e w2 ⟨rfl, hb2⟩
      have hblk2 := block_kept hblk hb2
      have hfz := block_free hblk2
      have hcl : w2.cell? ⟨w.heap.size, k * 4, none⟩ = some cur[k * 4] := by rw [block_cell hblk2]; simp
      have hcl2 : w2.cell? ⟨w.heap.size, k * 4 + 1, none⟩ = some cur[k * 4 + 1] := by rw [block_cell hblk2]; simp
      have hcl3 : w2.cell? ⟨w.heap.size, k * 4 + 2, none⟩ = some cur[k * 4 + 2] := by rw [block_cell hblk2]; simp
      have hcl4 : w2.cell? ⟨w.heap.size, k * 4 + 3, none⟩ = some cur[k * 4 + 3] := by rw [block_cell hblk2]; simp
      have hb3 : Below w.heap.size w w2 := hb.trans (hb2.mono hb.size)
      go_wp2
      go_roundw
      case rel =>
        refine ⟨k + 1, (((cur.setIfInBounds (k * 4) (.int .i64 ss[k].f)).setIfInBounds (k * 4 + 1) (.int .i64 ss[k].pc)).setIfInBounds (k * 4 + 2) (.int .i64 ss[k].seen)).setIfInBounds (k * 4 + 3) (.int .i64 ss[k].target), by omega, by go_num, block_set (block_set (block_set (block_set hblk2 _) _) _) _, by simpa using hsz, ?_, (((hb3.setCell (Nat.le_refl _) _).setCell (Nat.le_refl _) _).setCell (Nat.le_refl _) _).setCell (Nat.le_refl _) _⟩
        intro j hj hjk
        by_cases e : j = k
        · subst e
          refine ⟨?_, ?_, ?_, ?_⟩
          · rw [set_else _ (by omega), set_else _ (by omega), set_else _ (by omega)]; exact set_self _ (by omega)
          · rw [set_else _ (by omega), set_else _ (by omega)]; exact set_self _ (by simp; omega)
          · rw [set_else _ (by omega)]; exact set_self _ (by simp; omega)
          · exact set_self _ (by simp; omega)
        · obtain ⟨d1, d2, d3, d4⟩ := hdone j hj (by omega)
          refine ⟨?_, ?_, ?_, ?_⟩
          · rw [set_else _ (by omega), set_else _ (by omega), set_else _ (by omega), set_else _ (by omega)]; exact d1
          · rw [set_else _ (by omega), set_else _ (by omega), set_else _ (by omega), set_else _ (by omega)]; exact d2
          · rw [set_else _ (by omega), set_else _ (by omega), set_else _ (by omega), set_else _ (by omega)]; exact d3
          · rw [set_else _ (by omega), set_else _ (by omega), set_else _ (by omega), set_else _ (by omega)]; exact d4
      case measure => simp [intOf]; omega
    · go_wp2
      go_ret
      refine ⟨rfl, fun j hj => ?_, hb⟩
      obtain ⟨d1, d2, d3, d4⟩ := hdone j hj (by omega)
      exact ⟨w.heap.size, 0, rfl, Nat.le_refl _, by rw [block_cell hblk, Nat.zero_add]; exact d1, by rw [block_cell hblk, Nat.zero_add]; exact d2, by rw [block_cell hblk, Nat.zero_add]; exact d3, by rw [block_cell hblk, Nat.zero_add]; exact d4⟩

set_option maxHeartbeats 400000 in
theorem eqSpec_same (f p s t : Int) (w : World) :
    Calls Try.prog 16 #[.agg #[.int .i64 f, .int .i64 p, .int .i64 s, .int .i64 t], .agg #[.int .i64 f, .int .i64 p, .int .i64 s, .int .i64 t]] w fun e w' => e = .returned (.bool true) ∧ Below w.heap.size w w' := by
  go_enter Try.func16, Try.ntmps16
  go_wp2
  go_ret
  exact ⟨rfl, ((Below.refl _ _).alloc (Nat.le_refl _) _).alloc (by simp) _⟩

set_option maxHeartbeats 1000000 in
theorem eqSpecS_any (a a2 : Option Addr) (ss : List Si) (cap cap2 : Nat) (w : World) (hn : ss.length ≤ 1048576) (hm : SitesAt w 0 a ss) (hm2 : SitesAt w 0 a2 ss) :
    Calls Try.prog 24 #[.slice a ss.length cap, .slice a2 ss.length cap2] w fun e w' => e = .returned (.bool true) ∧ Below w.heap.size w w' := by
  go_enter Try.func24, Try.ntmps24
  go_wp2
  go_loopw [5] (fun i wr => ∃ (k : Nat), k ≤ ss.length ∧ i = .int .i64 k ∧ Below w.heap.size w wr) (fun i _ => ss.length - (intOf i).toNat)
  case atStart => exact ⟨0, by omega, rfl, Below.refl _ _⟩
  case round =>
    obtain ⟨k, hk, rfl, hb⟩ := hrel
    by_cases hlt : k < ss.length
    · obtain ⟨b, off, rfl, -, c1, d1, e1, f1⟩ := hm k hlt
      obtain ⟨b2, off2, rfl, -, c2, d2, e2, f2⟩ := hm2 k hlt
      have c1' := cell_later hb c1
      have c2' := cell_later hb c2
      have d1' := cell_later hb d1
      have d2' := cell_later hb d2
      have e1' := cell_later hb e1
      have e2' := cell_later hb e2
      have f1' := cell_later hb f1
      have f2' := cell_later hb f2
      clear c1 c2 d1 d2 e1 e2 f1 f2
      go_wp2
      go_region_with (go_at_call 16; refine (eqSpec_same _ _ _ _ _).mono ?_; rintro e w1 ⟨rfl, hb1⟩)
      all_goals
        go_wp2
        go_roundw
        case rel =>
          refine ⟨k + 1, by omega, by go_num, Below.trans ?_ (hb1.mono ?_)⟩
          · repeat (first | exact hb | apply Below.drew)
          · exact hb.size
        case measure => simp [intOf]; omega
    · go_wp2
      go_ret
      exact ⟨rfl, hb⟩


theorem szPlan_any (a : Option Addr) (n cap : Nat) (lay : Int) (bare : Bool) (left : Int) (w : World) (h0 : 0 ≤ left) (h1 : left ≤ 1048576) (hn : n ≤ maxLen) :
    Calls Try.prog 7 #[.agg #[.slice a n cap, .int .i64 lay, .bool bare], .int .i64 left] w fun e w' => e = .returned (.int .i64 (if left < n then -1 else left - n)) ∧ Below w.heap.size w w' := by
  have hB : Below w.heap.size w (w.alloc (.cells #[.slice a n cap, .int .i64 lay, .bool bare] 28)) := (Below.refl _ _).alloc (Nat.le_refl _) _
  by_cases h : left < n
  · rw [if_pos h]
    have H := szSpecS_any a n cap left
    rw [if_pos h] at H
    clear h
    go_enter Try.func7, Try.ntmps7
    go_wp2_with fail
    refine (H _ h0 h1 hn).mono ?_
    rintro e w' ⟨rfl, rfl⟩
    go_wp2
    go_ret
    exact ⟨rfl, hB⟩
  · rw [if_neg h]
    have h' : ¬ (left - (n : Int)) < 0 := by omega
    have H := szSpecS_any a n cap left
    rw [if_neg h] at H
    clear h
    go_enter Try.func7, Try.ntmps7
    go_wp2_with fail
    refine (H _ h0 h1 hn).mono ?_
    rintro e w' ⟨rfl, rfl⟩
    go_wp2
    go_ret
    exact ⟨rfl, hB⟩

theorem SitesAt.above {w w' : World} {lo : Nat} {a : Option Addr} {ss : List Si} (h : SitesAt w lo a ss) (hb : Above lo w w') : SitesAt w' lo a ss := by
  intro i hi
  obtain ⟨b, off, h1, h2, h3, h4, h5, h6⟩ := h i hi
  exact ⟨b, off, h1, h2, by rw [hb.cell h2]; exact h3, by rw [hb.cell h2]; exact h4, by rw [hb.cell h2]; exact h5, by rw [hb.cell h2]; exact h6⟩

set_option maxHeartbeats 1000000 in
theorem toPlan_any (a : Option Addr) (ss : List Si) (cap : Nat) (lay : Int) (bare : Bool) (w : World) (hn : ss.length ≤ 1048576) (hm : SitesAt w 0 a ss) :
    Calls Try.prog 10 #[.agg #[.slice a ss.length cap, .int .i64 lay, .bool bare]] w fun e w' => ∃ g, w.heap.size ≤ g ∧ e = .returned (.agg #[.slice (some ⟨g, 0, none⟩) ss.length ss.length, .int .i64 lay, .bool bare]) ∧ SitesAt w' w.heap.size (some ⟨g, 0, none⟩) ss ∧ Below w.heap.size w w' := by
  go_enter Try.func10, Try.ntmps10
  go_wp2_with fail
  have hbA : Below w.heap.size w (((w.alloc (.cells #[.slice a ss.length cap, .int .i64 lay, .bool bare] 28)).alloc (.cells #[.slice none 0 0, .int .i64 0, .bool false] 38)).alloc (.cells #[.slice none 0 0, .int .i64 0, .bool false] 38)) :=
    (((Below.refl _ _).alloc (Nat.le_refl _) _).alloc (by simp) _).alloc (by simp; omega) _
  refine (toSpecS_any a ss cap _ hn (hm.mono hbA)).mono ?_
  rintro e w1 ⟨rfl, hst, hb⟩
  have hB := block_kept (block_old (block_old (block_new w #[.slice a ss.length cap, .int .i64 lay, .bool bare] 28) (.cells #[.slice none 0 0, .int .i64 0, .bool false] 38)) (.cells #[.slice none 0 0, .int .i64 0, .bool false] 38)) hb
  have hR := block_kept (block_old (block_new (w.alloc (.cells #[.slice a ss.length cap, .int .i64 lay, .bool bare] 28)) #[.slice none 0 0, .int .i64 0, .bool false] 38) (.cells #[.slice none 0 0, .int .i64 0, .bool false] 38)) hb
  have hO := block_kept (block_new ((w.alloc (.cells #[.slice a ss.length cap, .int .i64 lay, .bool bare] 28)).alloc (.cells #[.slice none 0 0, .int .i64 0, .bool false] 38)) #[.slice none 0 0, .int .i64 0, .bool false] 38) hb
  simp only [World.size_alloc] at hB hR hO hst
  have hz1 := hb.size
  simp only [World.size_alloc] at hz1
  have hb1 : Below w.heap.size w w1 := hbA.trans (hb.mono (by simp; omega))
  have b1 := block_cell hB
  have o1 := block_cell hO
  have o2 := block_free hO
  have r1 := block_cell hR
  have r2 := block_free hR
  clear hB hR hO hb hbA
  go_wp2
  refine bodyPost_ret (v := .agg #[(.slice (some ⟨w.heap.size + 1 + 1 + 1, 0, none⟩) ss.length ss.length), .int .i64 lay, .bool bare]) (by simp [results, Try.results10, go_sem, r1]) rfl ⟨w.heap.size + 1 + 1 + 1, by omega, rfl, ?_, ?_⟩
  · refine (SitesAt.above hst ?_).low (by omega)
    repeat (first | refine Above.setCell ?_ (by simp) _ | with_reducible exact Above.refl _ _)
  · repeat (first | refine Below.setCell ?_ (by first | (simp; done) | (simp; omega)) _ | with_reducible exact hb1)

set_option maxHeartbeats 1000000 in
theorem eqPlan_any (a a2 : Option Addr) (ss : List Si) (cap cap2 : Nat) (lay : Int) (bare : Bool) (w : World) (hn : ss.length ≤ 1048576) (hm : SitesAt w 0 a ss) (hm2 : SitesAt w 0 a2 ss) :
    Calls Try.prog 13 #[.agg #[.slice a ss.length cap, .int .i64 lay, .bool bare], .agg #[.slice a2 ss.length cap2, .int .i64 lay, .bool bare]] w fun e w' => e = .returned (.bool true) ∧ Below w.heap.size w w' := by
  go_enter Try.func13, Try.ntmps13
  go_wp2_with fail
  have hbA : Below w.heap.size w ((w.alloc (.cells #[.slice a ss.length cap, .int .i64 lay, .bool bare] 38)).alloc (.cells #[.slice a2 ss.length cap2, .int .i64 lay, .bool bare] 38)) := ((Below.refl _ _).alloc (Nat.le_refl _) _).alloc (by simp) _
  refine (eqSpecS_any a a2 ss cap cap2 _ hn (hm.mono hbA) (hm2.mono hbA)).mono ?_
  rintro e w1 ⟨rfl, hb⟩
  have hA := block_kept (block_old (block_new w #[.slice a ss.length cap, .int .i64 lay, .bool bare] 38) (.cells #[.slice a2 ss.length cap2, .int .i64 lay, .bool bare] 38)) hb
  have hB := block_kept (block_new (w.alloc (.cells #[.slice a ss.length cap, .int .i64 lay, .bool bare] 38)) #[.slice a2 ss.length cap2, .int .i64 lay, .bool bare] 38) hb
  simp only [World.size_alloc] at hA hB
  have x1 := block_cell hA
  have x2 := block_cell hB
  have hb1 : Below w.heap.size w w1 := hbA.trans (hb.mono (by simp; omega))
  clear hA hB
  cases bare
  all_goals
    go_wp2
    go_ret
    exact ⟨rfl, hb1⟩
end Go.Proofs.Ytmjkkpmfneabjaa
