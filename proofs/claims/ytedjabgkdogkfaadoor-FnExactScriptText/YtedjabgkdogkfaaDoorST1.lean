/-
  Numbers as a row of words: numberWords, codeWords.
-/
import Derived.Test.YtedjabgkdogkfaaDoorST0
import Derived.Deep.Onto
import Derived.Deep.CutBlock
namespace Go.Proofs.YtedjabgkdogkfaaDoor
open Go.RowKit

theorem own_keeps {w w' : World} {base e size n B : Nat} {ts : List Nat} {v : Value} {xs : List Value} (h : w.ownsRow base e size v n xs) (hk : Keeps B ts w w') (he : e ∉ ts) : w'.ownsRow base e size v n xs := by
  refine ⟨h.1, ?_⟩
  rcases h.2 with hn | ⟨g, cap, cur, hv, hb, hg, r⟩
  · exact .inl hn
  · exact .inr ⟨g, cap, cur, hv, hb, hk.cell hg he, r⟩
theorem own_below {w w' : World} {base e size n : Nat} {v : Value} {xs : List Value} (h : w.ownsRow base e size v n xs) (hb : Below w.heap.size w w') : w'.ownsRow base e size v n xs :=
  own_keeps (B := 0) (ts := []) h (Keeps.below hb) (by simp)
theorem own_row {w : World} {base n g : Nat} {e : TypeId} {cur : Array Value} (hb : base ≤ g) (h : w.heap[g]? = some (.cells cur e (0, 0))) (hs : cur.size = n) (hm : n ≤ 100) : w.ownsRow base e 1 (.slice (some ⟨g, 0, none⟩) n n) n cur.toList :=
  ⟨by simp [hs], .inr ⟨g, n, cur, rfl, hb, h, Nat.le_refl _, by unfold maxLen; omega, by omega, by rw [List.take_of_length_le]; simp; omega⟩⟩
theorem LineAt.of_own {w : World} {base : Nat} {v : Value} {ws : List ByteArray} (h : w.ownsRow base 9 1 v ws.length (ws.map Value.string)) (hn : 0 < ws.length) : LineAt w base v ws := by
  rcases h.2 with ⟨-, h0⟩ | ⟨g, cap, cur, rfl, hb, hg, hnc, -, hs, ht⟩
  · omega
  · refine ⟨g, cap, cur, rfl, hb, hg, hnc, ?_⟩
    intro j x hx
    have hj : j < ws.length := (List.getElem?_eq_some_iff.1 hx).1
    have h1 : (cur.toList.take (ws.length * 1))[j]? = (ws.map Value.string)[j]? := by rw [ht]
    rw [List.getElem?_take_of_lt (by omega), Array.getElem?_toList, List.getElem?_map, hx] at h1
    exact h1
theorem infoS9 : (Tryd.prog.info? 9).map (fun i => (i.zero, i.size, i.bytes)) = some (some (.string ByteArray.empty), 1, 16) := by kernel_rfl
theorem infoS44 : (Tryd.prog.info? 44).map (fun i => (i.zero, i.size, i.bytes)) = some (some (.slice none 0 0), 1, 24) := by kernel_rfl
theorem one_strs (l : List ByteArray) : ∀ u ∈ l.map Value.string, u.oneCell' = true := by
  intro u hu
  obtain ⟨x, -, rfl⟩ := List.mem_map.1 hu
  rfl

set_option maxRecDepth 100000 in
set_option maxHeartbeats 1000000 in
theorem eachI_any (g : Nat) (ns : List Int) (cap : Nat) (w : World) (hn : ns.length ≤ 10) (hr : ∀ n ∈ ns, inR n) (hm : ∀ j (h : j < ns.length), w.cell? ⟨g, j, none⟩ = some (.int .i64 ns[j])) (htab : TabP w) :
    Calls Tryd.prog 35 #[.slice (some ⟨g, 0, none⟩) ns.length cap, .func (.func 36) #[] #[]] w fun e w' => ∃ cur, e = .returned (.slice (some ⟨w.heap.size, 0, none⟩) ns.length ns.length) ∧ w'.heap[w.heap.size]? = some (.cells cur 9 (0, 0)) ∧ cur.size = ns.length ∧ cur.toList = (ns.map numText).map Value.string ∧ Below w.heap.size w w' := by
  obtain ⟨i0, hi, hz0, hz1, hz2⟩ := info_parts infoS9
  go_enter Tryd.func35, Tryd.ntmps35
  go_wp2_with (first | (at_make; refine wpList_make_full _ rfl _ _ 44 rfl w.heap.size 9 i0 (.string ByteArray.empty) 1 Tryd.underlying44 hi hz0 hz1 _ _ _ _ ns.length rfl rfl rfl rfl (by rw [hz2]; omega) (by unfold maxLen; omega) (Nat.le_refl _) ?_; intro w1 hown hgrow))
  obtain ⟨cur0, hblk, hsz⟩ := made_block hown
  have hb0 : Below w.heap.size w w1 := (Below.refl _ _).grown hgrow (Nat.le_refl _) (by intro k hk; cases hk)
  clear hown hgrow hi hz0 hz1 hz2
  go_loopw [13] (fun i wr => ∃ (k : Nat) (cur : Array Value), k ≤ ns.length ∧ i = .int .i64 k ∧ wr.heap[w.heap.size]? = some (.cells cur 9 (0, 0)) ∧ cur.size = ns.length ∧ (∀ j (h : j < ns.length), j < k → cur[j]? = some (.string (numText ns[j]))) ∧ Below w.heap.size w wr) (fun i _ => ns.length - (intOf i).toNat)
  case atStart => exact ⟨0, cur0, by omega, rfl, hblk, by omega, fun j _ h => by omega, hb0⟩
  case round =>
    obtain ⟨k, cur, hk, rfl, hblk, hsz, hdone, hbr⟩ := hrel
    by_cases hlt : k < ns.length
    · have c0 := cell_later hbr (hm k hlt)
      have hrk := hr _ (List.getElem_mem hlt)
      have HC : Hid (∀ w', Below w.heap.size w w' → Calls Tryd.prog 36 #[.int .i64 ns[k]] w' fun e w'' => e = .returned (.string (numText ns[k])) ∧ Below w'.heap.size w' w'') := fun w' hb => itoa_any ns[k] w' (show _ ≤ _ from hrk.1) (show _ ≤ _ from hrk.2) (htab.below hb)
      have HD : Hid (∀ j (h : j < ns.length), j < k → cur[j]? = some (.string (numText ns[j]))) := hdone
      obtain ⟨x, hx⟩ : ∃ x, x = numText ns[k] := ⟨_, rfl⟩
      rw [← hx] at HC
      have HX : Hid (x = numText ns[k]) := hx
      clear hdone hx
      go_wp2_with fail
      refine (HC.out _ hbr).mono ?_
      rintro e w2 ⟨rfl, hb2⟩
      have hblk2 := block_kept hblk hb2
      have hfz := block_free hblk2
      have hcl : w2.cell? ⟨w.heap.size, k, none⟩ = some cur[k] := by rw [block_cell hblk2]; simp
      have HB : Hid (Below w.heap.size w w2) := hbr.trans (hb2.mono hbr.size)
      clear hb2 hbr c0 HC
      go_wp2
      go_roundw
      case rel =>
        refine ⟨k + 1, cur.setIfInBounds k (.string x), by omega, by go_num, block_set hblk2 _, by simpa using hsz, ?_, HB.out.setCell (Nat.le_refl _) _⟩
        intro j hj hjk
        by_cases e : j = k
        · subst e
          rw [← HX.out]
          exact set_self _ (by omega)
        · rw [set_else _ (by omega)]
          exact HD.out j hj (by omega)
      case measure => simp [intOf]; omega
    · have hkl : k = ns.length := by omega
      have HD : Hid (cur.toList = (ns.map numText).map Value.string ∧ Below w.heap.size w wr) := by
        refine ⟨?_, hbr⟩
        apply List.ext_getElem?
        intro j
        rw [Array.getElem?_toList]
        by_cases e : j < ns.length
        · rw [hdone j e (by omega)]
          simp [e]
        · rw [Array.getElem?_eq_none (by omega), List.getElem?_eq_none (by simp; omega)]
      clear hdone hbr
      go_wp2
      go_ret
      exact ⟨cur, rfl, hblk, hsz, HD.out.1, HD.out.2⟩

set_option maxRecDepth 100000 in
set_option maxHeartbeats 1000000 in
theorem numW_any (g : Nat) (ns : List Int) (cap : Nat) (w : World) (hn : ns.length ≤ 10) (hr : ∀ n ∈ ns, inR n) (hm : ∀ j (h : j < ns.length), w.cell? ⟨g, j, none⟩ = some (.int .i64 ns[j])) (htab : TabP w) :
    Calls Tryd.prog 29 #[.slice (some ⟨g, 0, none⟩) ns.length cap] w fun e w' => ∃ cur, e = .returned (.slice (some ⟨w.heap.size, 0, none⟩) ns.length ns.length) ∧ w'.heap[w.heap.size]? = some (.cells cur 9 (0, 0)) ∧ cur.size = ns.length ∧ cur.toList = (ns.map numText).map Value.string ∧ Below w.heap.size w w' := by
  go_enter Tryd.func29, Tryd.ntmps29
  go_wp2_with fail
  refine (eachI_any g ns cap w hn hr hm htab).mono ?_
  rintro e w1 ⟨cur, rfl, h2, h3, h4, h5⟩
  have HD := hid h4
  clear h4 hr hm
  go_wp2
  go_ret
  exact ⟨cur, rfl, h2, h3, HD.out, h5⟩

set_option maxRecDepth 100000 in
set_option maxHeartbeats 1000000 in
theorem codeW_any (b : Bool) (g : Nat) (ns : List Int) (cap : Nat) (w : World) (hn : ns.length ≤ 10) (hr : ∀ n ∈ ns, inR n) (hm : ∀ j (h : j < ns.length), w.cell? ⟨g, j, none⟩ = some (.int .i64 ns[j])) (htab : TabP w) :
    Calls Tryd.prog 30 #[.bool b, .slice (some ⟨g, 0, none⟩) ns.length cap] w fun e w' => ∃ g' cap' cur, e = .returned (.slice (some ⟨g', 0, none⟩) (ns.length + 1) cap') ∧ w'.ownsRow w.heap.size 9 1 (.slice (some ⟨g', 0, none⟩) (ns.length + 1) cap') (ns.length + 1) cur ∧ cur = (ns.map numText ++ [howW b]).map Value.string ∧ Below w.heap.size w w' := by
  obtain ⟨i9, hi9, hy0, hy1, hy2⟩ := info_parts infoS9
  have HW : Hid (∀ cur : List Value, cur = (ns.map numText).map Value.string → cur ++ [Value.string (howW b)] = (ns.map numText ++ [howW b]).map Value.string) := fun cur h => by rw [h, List.map_append]; rfl
  have HN := hid (numW_any g ns cap w hn hr hm htab)
  clear hr hm htab
  obtain ⟨h, hh⟩ : ∃ h, h = howW b := ⟨_, rfl⟩
  rw [← hh] at HW ⊢
  cases b with
  | true =>
    obtain rfl : h = ⟨#[98, 97, 114, 101]⟩ := hh
    go_enter Tryd.func30, Tryd.ntmps30
    go_wp2_with fail
    refine HN.out.mono ?_
    rintro e w1 ⟨cur, rfl, h2, h3, h4, h5⟩
    have hown := own_row (Nat.le_refl _) h2 h3 (by omega)
    have h6 : Below w.heap.size w (w1.alloc (.cells #[.string ⟨#[98, 97, 114, 101]⟩] 9)) := h5.alloc h5.size _
    have hown2 := World.ownsRow.alloc hown (.cells #[.string ⟨#[98, 97, 114, 101]⟩] 9)
    have hblk := block_new w1 #[.string ⟨#[98, 97, 114, 101]⟩] 9
    have HD := hid (HW.out _ h4)
    clear hown h4 HW HN h2
    go_upto_block 0 with (first | (at_builtin; refine wpList_append_own _ rfl _ _ 44 rfl w.heap.size 9 i9 (.string ByteArray.empty) 1 16 Tryd.underlying44 hi9 hy0 hy1 hy2 rfl (by decide) _ _ _ rfl hown2 ⟨w1.heap.size, 0, none⟩ 1 1 [.string ⟨#[98, 97, 114, 101]⟩] rfl rfl (World.news_of_block hblk) (by simp [Value.oneCell']) (by unfold maxLen; omega) (by omega) h6.size ?_; intro va wa hownA hgrowA hnilA))
    have qA := h6.trans ((Keeps.grown (ts := [9]) hown2 hgrowA (by decide)).toBelow h6.size)
    obtain ⟨ga, capa, rfl, -⟩ := hownA.form (by omega)
    clear hown2 hgrowA hnilA hblk
    go_wp2
    go_ret
    exact ⟨ga, capa, _, rfl, hownA, HD.out, qA⟩
  | false =>
    obtain rfl : h = ⟨#[109, 97, 100, 101]⟩ := hh
    go_enter Tryd.func30, Tryd.ntmps30
    go_wp2_with fail
    refine HN.out.mono ?_
    rintro e w1 ⟨cur, rfl, h2, h3, h4, h5⟩
    have hown := own_row (Nat.le_refl _) h2 h3 (by omega)
    have h6 : Below w.heap.size w (w1.alloc (.cells #[.string ⟨#[109, 97, 100, 101]⟩] 9)) := h5.alloc h5.size _
    have hown2 := World.ownsRow.alloc hown (.cells #[.string ⟨#[109, 97, 100, 101]⟩] 9)
    have hblk := block_new w1 #[.string ⟨#[109, 97, 100, 101]⟩] 9
    have HD := hid (HW.out _ h4)
    clear hown h4 HW HN h2
    go_upto_block 0 with (first | (at_builtin; refine wpList_append_own _ rfl _ _ 44 rfl w.heap.size 9 i9 (.string ByteArray.empty) 1 16 Tryd.underlying44 hi9 hy0 hy1 hy2 rfl (by decide) _ _ _ rfl hown2 ⟨w1.heap.size, 0, none⟩ 1 1 [.string ⟨#[109, 97, 100, 101]⟩] rfl rfl (World.news_of_block hblk) (by simp [Value.oneCell']) (by unfold maxLen; omega) (by omega) h6.size ?_; intro va wa hownA hgrowA hnilA))
    have qA := h6.trans ((Keeps.grown (ts := [9]) hown2 hgrowA (by decide)).toBelow h6.size)
    obtain ⟨ga, capa, rfl, -⟩ := hownA.form (by omega)
    clear hown2 hgrowA hnilA hblk
    go_wp2
    go_ret
    exact ⟨ga, capa, _, rfl, hownA, HD.out, qA⟩
end Go.Proofs.YtedjabgkdogkfaaDoor
