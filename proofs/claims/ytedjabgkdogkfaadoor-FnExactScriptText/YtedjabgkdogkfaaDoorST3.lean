/-
  The words of an act: impl.actLine.
-/
import Derived.Test.YtedjabgkdogkfaaDoorST2
namespace Go.Proofs.YtedjabgkdogkfaaDoor
open Go.RowKit

/-- What actLine answers. -/
def LineP (w : World) (x : Ac) (e : Ending) (w' : World) : Prop := ∃ v, e = .returned v ∧ w'.ownsRow w.heap.size 9 1 v (actW x).length ((actW x).map Value.string) ∧ Below w.heap.size w w'
set_option maxRecDepth 100000 in
set_option maxHeartbeats 2000000 in
theorem line_run (x : Ac) (sa : Option Addr) (cap : Nat) (w : World) (hk : x.k = 1) (ra : inR x.a) (htab : TabP w) :
    Calls Tryd.prog 18 #[.agg #[.int .i64 x.k, .int .i64 x.a, .int .i64 x.b, .int .i64 x.l, .bool x.s, .slice sa x.ss.length cap]] w fun e w' => LineP w x e w' := by
  obtain ⟨i9, hi9, hy0, hy1, hy2⟩ := info_parts infoS9
  have HW : Hid (actW x = ⟨#[114, 117, 110]⟩ :: ([x.a].map numText)) := by
    show _ = _
    unfold actW
    rw [if_pos (by omega)]
    rfl
  obtain ⟨W, hW⟩ : ∃ W, W = w.alloc (.cells #[.int .i64 x.k, .int .i64 x.a, .int .i64 x.b, .int .i64 x.l, .bool x.s, .slice sa x.ss.length cap] 37) := ⟨_, rfl⟩
  have hb : Below w.heap.size w W := by rw [hW]; exact (Below.refl _ _).alloc (Nat.le_refl _) _
  have hA : W.heap[w.heap.size]? = some (.cells #[.int .i64 x.k, .int .i64 x.a, .int .i64 x.b, .int .i64 x.l, .bool x.s, .slice sa x.ss.length cap] 37 (0, 0)) := by rw [hW]; exact block_new _ _ _
  have m0 := block_cell hA
  obtain ⟨W1, hW1⟩ : ∃ W1, W1 = W.alloc (.cells #[.string ⟨#[114, 117, 110]⟩] 9) := ⟨_, rfl⟩
  have hb1 : Below w.heap.size w W1 := by rw [hW1]; exact hb.alloc hb.size _
  have hs1 : W1.heap[W.heap.size]? = some (.cells #[.string ⟨#[114, 117, 110]⟩] 9 (0, 0)) := by rw [hW1]; exact block_new _ _ _
  have hA1 : W1.heap[w.heap.size]? = some (.cells #[.int .i64 x.k, .int .i64 x.a, .int .i64 x.b, .int .i64 x.l, .bool x.s, .slice sa x.ss.length cap] 37 (0, 0)) := by rw [hW1]; exact block_old hA _
  obtain ⟨W2, hW2⟩ : ∃ W2, W2 = W1.alloc (.cells #[.int .i64 x.a] 3) := ⟨_, rfl⟩
  have hb2 : Below w.heap.size w W2 := by rw [hW2]; exact hb1.alloc hb1.size _
  have hs2 : W2.heap[W.heap.size]? = some (.cells #[.string ⟨#[114, 117, 110]⟩] 9 (0, 0)) := by rw [hW2]; exact block_old hs1 _
  have hn2 : W2.heap[W1.heap.size]? = some (.cells #[.int .i64 x.a] 3 (0, 0)) := by rw [hW2]; exact block_new _ _ _
  have hle : w.heap.size ≤ W.heap.size := hb.size
  have hz1 : W1.heap.size = W.heap.size + 1 := by rw [hW1]; simp
  rw [hz1] at hn2
  have n2 := block_cell hn2
  have m1 := block_cell hA1
  rw [hW1] at m1
  have HW1 := hid hW1
  have HW2 := hid hW2
  have HC : Hid (Calls Tryd.prog 29 #[.slice (some ⟨W.heap.size + 1, 0, none⟩) 1 1] W2 fun e w' => ∃ cur, e = .returned (.slice (some ⟨W2.heap.size, 0, none⟩) 1 1) ∧ w'.heap[W2.heap.size]? = some (.cells cur 9 (0, 0)) ∧ cur.size = 1 ∧ cur.toList = ([x.a].map numText).map Value.string ∧ Below W2.heap.size W2 w') := numW_any (W.heap.size + 1) [x.a] 1 W2 (by simp) (by simp only [List.mem_cons, List.not_mem_nil, or_false]; rintro n (rfl) <;> assumption) (by
    intro j hj
    rw [n2]
    match j, hj with
    | 0, _ => rfl) (htab.below hb2)
  have HB := hid hb2
  have HS := hid hs2
  have HK := hid hk
  clear hW1 hW2 hz1 hk hb hb1 hb2 hs1 hs2 hn2 n2 hA1 hA htab ra
  go_enter Tryd.func18, Tryd.ntmps18
  go_upto_region 1 with fail
  rw [← hW]
  clear hW
  have hk := HK.out
  go_upto_region 1 with fail
  go_wp2_with fail
  rw [← HW1.out, ← HW2.out]
  clear HW1 HW2 m0 m1
  refine HC.out.mono ?_
  rintro e w3 ⟨cur, rfl, hg, hsz, hcur, hb3⟩
  have hB3 := HB.out.trans (hb3.mono HB.out.size)
  have hown : w3.ownsRow w.heap.size 9 1 (.slice (some ⟨W.heap.size, 0, none⟩) 1 1) 1 [.string ⟨#[114, 117, 110]⟩] := own_row hle (block_kept HS.out hb3) rfl (by decide)
  obtain ⟨gw, hgw⟩ : ∃ gw, gw = W.heap.size := ⟨_, rfl⟩
  rw [← hgw] at hown ⊢
  have h1 : ∀ u ∈ cur.toList, u.oneCell' = true := by rw [hcur]; exact one_strs _
  have hs' : cur.toList.length = 1 * 1 := by simp [hsz]
  have HX : Hid ([.string ⟨#[114, 117, 110]⟩] ++ cur.toList = (actW x).map Value.string ∧ (actW x).length = 1 + 1) := by
    rw [HW.out, hcur]
    exact ⟨rfl, rfl⟩
  clear hcur HW HC HS hb3 hsz hgw hle
  go_upto_block 0 with (first | (at_builtin; refine wpList_append_own _ rfl _ _ 44 rfl w.heap.size 9 i9 (.string ByteArray.empty) 1 16 Tryd.underlying44 hi9 hy0 hy1 hy2 rfl (by decide) _ _ _ rfl hown ⟨W2.heap.size, 0, none⟩ _ _ cur.toList rfl hs' (World.news_of_block hg) h1 (by unfold maxLen; omega) (by omega) hB3.size ?_; intro va wa hownA hgrowA hnilA))
  have qA := hB3.trans ((Keeps.grown (ts := [9]) hown hgrowA (by decide)).toBelow hB3.size)
  clear hown hgrowA hnilA hg h1 hs' hB3
  go_wp2
  go_ret
  refine ⟨_, rfl, ?_, qA⟩
  rw [HX.out.2, ← HX.out.1]
  exact hownA
set_option maxRecDepth 100000 in
set_option maxHeartbeats 2000000 in
theorem line_drop (x : Ac) (sa : Option Addr) (cap : Nat) (w : World) (hk : x.k = 4) (ra : inR x.a) (htab : TabP w) :
    Calls Tryd.prog 18 #[.agg #[.int .i64 x.k, .int .i64 x.a, .int .i64 x.b, .int .i64 x.l, .bool x.s, .slice sa x.ss.length cap]] w fun e w' => LineP w x e w' := by
  obtain ⟨i9, hi9, hy0, hy1, hy2⟩ := info_parts infoS9
  have HW : Hid (actW x = ⟨#[100, 114, 111, 112]⟩ :: ([x.a].map numText)) := by
    show _ = _
    unfold actW
    rw [if_neg (by omega)]
    rw [if_neg (by omega)]
    rw [if_neg (by omega)]
    rw [if_pos (by omega)]
    rfl
  obtain ⟨W, hW⟩ : ∃ W, W = w.alloc (.cells #[.int .i64 x.k, .int .i64 x.a, .int .i64 x.b, .int .i64 x.l, .bool x.s, .slice sa x.ss.length cap] 37) := ⟨_, rfl⟩
  have hb : Below w.heap.size w W := by rw [hW]; exact (Below.refl _ _).alloc (Nat.le_refl _) _
  have hA : W.heap[w.heap.size]? = some (.cells #[.int .i64 x.k, .int .i64 x.a, .int .i64 x.b, .int .i64 x.l, .bool x.s, .slice sa x.ss.length cap] 37 (0, 0)) := by rw [hW]; exact block_new _ _ _
  have m0 := block_cell hA
  obtain ⟨W1, hW1⟩ : ∃ W1, W1 = W.alloc (.cells #[.string ⟨#[100, 114, 111, 112]⟩] 9) := ⟨_, rfl⟩
  have hb1 : Below w.heap.size w W1 := by rw [hW1]; exact hb.alloc hb.size _
  have hs1 : W1.heap[W.heap.size]? = some (.cells #[.string ⟨#[100, 114, 111, 112]⟩] 9 (0, 0)) := by rw [hW1]; exact block_new _ _ _
  have hA1 : W1.heap[w.heap.size]? = some (.cells #[.int .i64 x.k, .int .i64 x.a, .int .i64 x.b, .int .i64 x.l, .bool x.s, .slice sa x.ss.length cap] 37 (0, 0)) := by rw [hW1]; exact block_old hA _
  obtain ⟨W2, hW2⟩ : ∃ W2, W2 = W1.alloc (.cells #[.int .i64 x.a] 3) := ⟨_, rfl⟩
  have hb2 : Below w.heap.size w W2 := by rw [hW2]; exact hb1.alloc hb1.size _
  have hs2 : W2.heap[W.heap.size]? = some (.cells #[.string ⟨#[100, 114, 111, 112]⟩] 9 (0, 0)) := by rw [hW2]; exact block_old hs1 _
  have hn2 : W2.heap[W1.heap.size]? = some (.cells #[.int .i64 x.a] 3 (0, 0)) := by rw [hW2]; exact block_new _ _ _
  have hle : w.heap.size ≤ W.heap.size := hb.size
  have hz1 : W1.heap.size = W.heap.size + 1 := by rw [hW1]; simp
  rw [hz1] at hn2
  have n2 := block_cell hn2
  have m1 := block_cell hA1
  rw [hW1] at m1
  have HW1 := hid hW1
  have HW2 := hid hW2
  have HC : Hid (Calls Tryd.prog 29 #[.slice (some ⟨W.heap.size + 1, 0, none⟩) 1 1] W2 fun e w' => ∃ cur, e = .returned (.slice (some ⟨W2.heap.size, 0, none⟩) 1 1) ∧ w'.heap[W2.heap.size]? = some (.cells cur 9 (0, 0)) ∧ cur.size = 1 ∧ cur.toList = ([x.a].map numText).map Value.string ∧ Below W2.heap.size W2 w') := numW_any (W.heap.size + 1) [x.a] 1 W2 (by simp) (by simp only [List.mem_cons, List.not_mem_nil, or_false]; rintro n (rfl) <;> assumption) (by
    intro j hj
    rw [n2]
    match j, hj with
    | 0, _ => rfl) (htab.below hb2)
  have HB := hid hb2
  have HS := hid hs2
  have HK := hid hk
  clear hW1 hW2 hz1 hk hb hb1 hb2 hs1 hs2 hn2 n2 hA1 hA htab ra
  go_enter Tryd.func18, Tryd.ntmps18
  go_upto_region 1 with fail
  rw [← hW]
  clear hW
  have hk := HK.out
  go_upto_region 7 with fail
  go_wp2_with fail
  rw [← HW1.out, ← HW2.out]
  clear HW1 HW2 m0 m1
  refine HC.out.mono ?_
  rintro e w3 ⟨cur, rfl, hg, hsz, hcur, hb3⟩
  have hB3 := HB.out.trans (hb3.mono HB.out.size)
  have hown : w3.ownsRow w.heap.size 9 1 (.slice (some ⟨W.heap.size, 0, none⟩) 1 1) 1 [.string ⟨#[100, 114, 111, 112]⟩] := own_row hle (block_kept HS.out hb3) rfl (by decide)
  obtain ⟨gw, hgw⟩ : ∃ gw, gw = W.heap.size := ⟨_, rfl⟩
  rw [← hgw] at hown ⊢
  have h1 : ∀ u ∈ cur.toList, u.oneCell' = true := by rw [hcur]; exact one_strs _
  have hs' : cur.toList.length = 1 * 1 := by simp [hsz]
  have HX : Hid ([.string ⟨#[100, 114, 111, 112]⟩] ++ cur.toList = (actW x).map Value.string ∧ (actW x).length = 1 + 1) := by
    rw [HW.out, hcur]
    exact ⟨rfl, rfl⟩
  clear hcur HW HC HS hb3 hsz hgw hle
  go_upto_block 0 with (first | (at_builtin; refine wpList_append_own _ rfl _ _ 44 rfl w.heap.size 9 i9 (.string ByteArray.empty) 1 16 Tryd.underlying44 hi9 hy0 hy1 hy2 rfl (by decide) _ _ _ rfl hown ⟨W2.heap.size, 0, none⟩ _ _ cur.toList rfl hs' (World.news_of_block hg) h1 (by unfold maxLen; omega) (by omega) hB3.size ?_; intro va wa hownA hgrowA hnilA))
  have qA := hB3.trans ((Keeps.grown (ts := [9]) hown hgrowA (by decide)).toBelow hB3.size)
  clear hown hgrowA hnilA hg h1 hs' hB3
  go_wp2
  go_ret
  refine ⟨_, rfl, ?_, qA⟩
  rw [HX.out.2, ← HX.out.1]
  exact hownA
set_option maxRecDepth 100000 in
set_option maxHeartbeats 2000000 in
theorem line_tier (x : Ac) (sa : Option Addr) (cap : Nat) (w : World) (hk : x.k = 2) (ra : inR x.a) (rl : inR x.l) (htab : TabP w) :
    Calls Tryd.prog 18 #[.agg #[.int .i64 x.k, .int .i64 x.a, .int .i64 x.b, .int .i64 x.l, .bool x.s, .slice sa x.ss.length cap]] w fun e w' => LineP w x e w' := by
  obtain ⟨i9, hi9, hy0, hy1, hy2⟩ := info_parts infoS9
  have HW : Hid (actW x = ⟨#[116, 105, 101, 114]⟩ :: ([x.a, x.l].map numText ++ [howW x.s])) := by
    show _ = _
    unfold actW
    rw [if_neg (by omega)]
    rw [if_pos (by omega)]
    rfl
  obtain ⟨W, hW⟩ : ∃ W, W = w.alloc (.cells #[.int .i64 x.k, .int .i64 x.a, .int .i64 x.b, .int .i64 x.l, .bool x.s, .slice sa x.ss.length cap] 37) := ⟨_, rfl⟩
  have hb : Below w.heap.size w W := by rw [hW]; exact (Below.refl _ _).alloc (Nat.le_refl _) _
  have hA : W.heap[w.heap.size]? = some (.cells #[.int .i64 x.k, .int .i64 x.a, .int .i64 x.b, .int .i64 x.l, .bool x.s, .slice sa x.ss.length cap] 37 (0, 0)) := by rw [hW]; exact block_new _ _ _
  have m0 := block_cell hA
  obtain ⟨W1, hW1⟩ : ∃ W1, W1 = W.alloc (.cells #[.string ⟨#[116, 105, 101, 114]⟩] 9) := ⟨_, rfl⟩
  have hb1 : Below w.heap.size w W1 := by rw [hW1]; exact hb.alloc hb.size _
  have hs1 : W1.heap[W.heap.size]? = some (.cells #[.string ⟨#[116, 105, 101, 114]⟩] 9 (0, 0)) := by rw [hW1]; exact block_new _ _ _
  have hA1 : W1.heap[w.heap.size]? = some (.cells #[.int .i64 x.k, .int .i64 x.a, .int .i64 x.b, .int .i64 x.l, .bool x.s, .slice sa x.ss.length cap] 37 (0, 0)) := by rw [hW1]; exact block_old hA _
  obtain ⟨W2, hW2⟩ : ∃ W2, W2 = W1.alloc (.cells #[.int .i64 x.a, .int .i64 x.l] 3) := ⟨_, rfl⟩
  have hb2 : Below w.heap.size w W2 := by rw [hW2]; exact hb1.alloc hb1.size _
  have hs2 : W2.heap[W.heap.size]? = some (.cells #[.string ⟨#[116, 105, 101, 114]⟩] 9 (0, 0)) := by rw [hW2]; exact block_old hs1 _
  have hn2 : W2.heap[W1.heap.size]? = some (.cells #[.int .i64 x.a, .int .i64 x.l] 3 (0, 0)) := by rw [hW2]; exact block_new _ _ _
  have hle : w.heap.size ≤ W.heap.size := hb.size
  have hz1 : W1.heap.size = W.heap.size + 1 := by rw [hW1]; simp
  rw [hz1] at hn2
  have n2 := block_cell hn2
  have m1 := block_cell hA1
  rw [hW1] at m1
  have HW1 := hid hW1
  have HW2 := hid hW2
  have HC : Hid (Calls Tryd.prog 30 #[.bool x.s, .slice (some ⟨W.heap.size + 1, 0, none⟩) 2 2] W2 fun e w' => ∃ g' cap' cur, e = .returned (.slice (some ⟨g', 0, none⟩) 3 cap') ∧ w'.ownsRow W2.heap.size 9 1 (.slice (some ⟨g', 0, none⟩) 3 cap') 3 cur ∧ cur = ([x.a, x.l].map numText ++ [howW x.s]).map Value.string ∧ Below W2.heap.size W2 w') := codeW_any x.s (W.heap.size + 1) [x.a, x.l] 2 W2 (by simp) (by simp only [List.mem_cons, List.not_mem_nil, or_false]; rintro n (rfl | rfl) <;> assumption) (by
    intro j hj
    rw [n2]
    match j, hj with
    | 0, _ => rfl
    | 1, _ => rfl) (htab.below hb2)
  have HB := hid hb2
  have HS := hid hs2
  have HK := hid hk
  clear hW1 hW2 hz1 hk hb hb1 hb2 hs1 hs2 hn2 n2 hA1 hA htab ra rl
  go_enter Tryd.func18, Tryd.ntmps18
  go_upto_region 1 with fail
  rw [← hW]
  clear hW
  have hk := HK.out
  go_upto_region 3 with fail
  go_wp2_with fail
  rw [← HW1.out, ← HW2.out]
  clear HW1 HW2 m0 m1
  refine HC.out.mono ?_
  rintro e w3 ⟨g, cp, cur, rfl, ho, hcur, hb3⟩
  have hB3 := HB.out.trans (hb3.mono HB.out.size)
  have hown : w3.ownsRow w.heap.size 9 1 (.slice (some ⟨W.heap.size, 0, none⟩) 1 1) 1 [.string ⟨#[116, 105, 101, 114]⟩] := own_row hle (block_kept HS.out hb3) rfl (by decide)
  obtain ⟨gw, hgw⟩ : ∃ gw, gw = W.heap.size := ⟨_, rfl⟩
  rw [← hgw] at hown ⊢
  have h1 : ∀ u ∈ cur, u.oneCell' = true := by rw [hcur]; exact one_strs _
  have hs' : cur.length = 3 * 1 := by rw [hcur]; simp
  have hnw : ∀ j u, cur[j]? = some u → w3.cell? ((⟨g, 0, none⟩ : Addr).add j) = some u := fun j u hu => by
    have hj : j < 3 := by have := (List.getElem?_eq_some_iff.1 hu).1; omega
    have := ho.cellAt j hj
    have hadd : (⟨g, 0, none⟩ : Addr).add j = ⟨g, j, none⟩ := by unfold Addr.add; split <;> simp_all
    rw [hadd, this]
    exact hu
  have HX : Hid ([.string ⟨#[116, 105, 101, 114]⟩] ++ cur = (actW x).map Value.string ∧ (actW x).length = 1 + 3) := by
    rw [HW.out, hcur]
    exact ⟨rfl, rfl⟩
  clear hcur HW HC HS hb3 hgw hle ho
  go_upto_block 0 with (first | (at_builtin; refine wpList_append_own _ rfl _ _ 44 rfl w.heap.size 9 i9 (.string ByteArray.empty) 1 16 Tryd.underlying44 hi9 hy0 hy1 hy2 rfl (by decide) _ _ _ rfl hown ⟨g, 0, none⟩ _ _ cur rfl hs' hnw h1 (by unfold maxLen; omega) (by omega) hB3.size ?_; intro va wa hownA hgrowA hnilA))
  have qA := hB3.trans ((Keeps.grown (ts := [9]) hown hgrowA (by decide)).toBelow hB3.size)
  clear hown hgrowA hnilA h1 hs' hB3 hnw
  go_wp2
  go_ret
  refine ⟨_, rfl, ?_, qA⟩
  rw [HX.out.2, ← HX.out.1]
  exact hownA
set_option maxRecDepth 100000 in
set_option maxHeartbeats 2000000 in
theorem line_loop (x : Ac) (sa : Option Addr) (cap : Nat) (w : World) (hk : x.k = 3) (ra : inR x.a) (rb : inR x.b) (rl : inR x.l) (htab : TabP w) :
    Calls Tryd.prog 18 #[.agg #[.int .i64 x.k, .int .i64 x.a, .int .i64 x.b, .int .i64 x.l, .bool x.s, .slice sa x.ss.length cap]] w fun e w' => LineP w x e w' := by
  obtain ⟨i9, hi9, hy0, hy1, hy2⟩ := info_parts infoS9
  have HW : Hid (actW x = ⟨#[108, 111, 111, 112]⟩ :: ([x.a, x.b, x.l].map numText ++ [howW x.s])) := by
    show _ = _
    unfold actW
    rw [if_neg (by omega)]
    rw [if_neg (by omega)]
    rw [if_pos (by omega)]
    rfl
  obtain ⟨W, hW⟩ : ∃ W, W = w.alloc (.cells #[.int .i64 x.k, .int .i64 x.a, .int .i64 x.b, .int .i64 x.l, .bool x.s, .slice sa x.ss.length cap] 37) := ⟨_, rfl⟩
  have hb : Below w.heap.size w W := by rw [hW]; exact (Below.refl _ _).alloc (Nat.le_refl _) _
  have hA : W.heap[w.heap.size]? = some (.cells #[.int .i64 x.k, .int .i64 x.a, .int .i64 x.b, .int .i64 x.l, .bool x.s, .slice sa x.ss.length cap] 37 (0, 0)) := by rw [hW]; exact block_new _ _ _
  have m0 := block_cell hA
  obtain ⟨W1, hW1⟩ : ∃ W1, W1 = W.alloc (.cells #[.string ⟨#[108, 111, 111, 112]⟩] 9) := ⟨_, rfl⟩
  have hb1 : Below w.heap.size w W1 := by rw [hW1]; exact hb.alloc hb.size _
  have hs1 : W1.heap[W.heap.size]? = some (.cells #[.string ⟨#[108, 111, 111, 112]⟩] 9 (0, 0)) := by rw [hW1]; exact block_new _ _ _
  have hA1 : W1.heap[w.heap.size]? = some (.cells #[.int .i64 x.k, .int .i64 x.a, .int .i64 x.b, .int .i64 x.l, .bool x.s, .slice sa x.ss.length cap] 37 (0, 0)) := by rw [hW1]; exact block_old hA _
  obtain ⟨W2, hW2⟩ : ∃ W2, W2 = W1.alloc (.cells #[.int .i64 x.a, .int .i64 x.b, .int .i64 x.l] 3) := ⟨_, rfl⟩
  have hb2 : Below w.heap.size w W2 := by rw [hW2]; exact hb1.alloc hb1.size _
  have hs2 : W2.heap[W.heap.size]? = some (.cells #[.string ⟨#[108, 111, 111, 112]⟩] 9 (0, 0)) := by rw [hW2]; exact block_old hs1 _
  have hn2 : W2.heap[W1.heap.size]? = some (.cells #[.int .i64 x.a, .int .i64 x.b, .int .i64 x.l] 3 (0, 0)) := by rw [hW2]; exact block_new _ _ _
  have hle : w.heap.size ≤ W.heap.size := hb.size
  have hz1 : W1.heap.size = W.heap.size + 1 := by rw [hW1]; simp
  rw [hz1] at hn2
  have n2 := block_cell hn2
  have m1 := block_cell hA1
  rw [hW1] at m1
  have HW1 := hid hW1
  have HW2 := hid hW2
  have HC : Hid (Calls Tryd.prog 30 #[.bool x.s, .slice (some ⟨W.heap.size + 1, 0, none⟩) 3 3] W2 fun e w' => ∃ g' cap' cur, e = .returned (.slice (some ⟨g', 0, none⟩) 4 cap') ∧ w'.ownsRow W2.heap.size 9 1 (.slice (some ⟨g', 0, none⟩) 4 cap') 4 cur ∧ cur = ([x.a, x.b, x.l].map numText ++ [howW x.s]).map Value.string ∧ Below W2.heap.size W2 w') := codeW_any x.s (W.heap.size + 1) [x.a, x.b, x.l] 3 W2 (by simp) (by simp only [List.mem_cons, List.not_mem_nil, or_false]; rintro n (rfl | rfl | rfl) <;> assumption) (by
    intro j hj
    rw [n2]
    match j, hj with
    | 0, _ => rfl
    | 1, _ => rfl
    | 2, _ => rfl) (htab.below hb2)
  have HB := hid hb2
  have HS := hid hs2
  have HK := hid hk
  clear hW1 hW2 hz1 hk hb hb1 hb2 hs1 hs2 hn2 n2 hA1 hA htab ra rb rl
  go_enter Tryd.func18, Tryd.ntmps18
  go_upto_region 1 with fail
  rw [← hW]
  clear hW
  have hk := HK.out
  go_upto_region 5 with fail
  go_wp2_with fail
  rw [← HW1.out, ← HW2.out]
  clear HW1 HW2 m0 m1
  refine HC.out.mono ?_
  rintro e w3 ⟨g, cp, cur, rfl, ho, hcur, hb3⟩
  have hB3 := HB.out.trans (hb3.mono HB.out.size)
  have hown : w3.ownsRow w.heap.size 9 1 (.slice (some ⟨W.heap.size, 0, none⟩) 1 1) 1 [.string ⟨#[108, 111, 111, 112]⟩] := own_row hle (block_kept HS.out hb3) rfl (by decide)
  obtain ⟨gw, hgw⟩ : ∃ gw, gw = W.heap.size := ⟨_, rfl⟩
  rw [← hgw] at hown ⊢
  have h1 : ∀ u ∈ cur, u.oneCell' = true := by rw [hcur]; exact one_strs _
  have hs' : cur.length = 4 * 1 := by rw [hcur]; simp
  have hnw : ∀ j u, cur[j]? = some u → w3.cell? ((⟨g, 0, none⟩ : Addr).add j) = some u := fun j u hu => by
    have hj : j < 4 := by have := (List.getElem?_eq_some_iff.1 hu).1; omega
    have := ho.cellAt j hj
    have hadd : (⟨g, 0, none⟩ : Addr).add j = ⟨g, j, none⟩ := by unfold Addr.add; split <;> simp_all
    rw [hadd, this]
    exact hu
  have HX : Hid ([.string ⟨#[108, 111, 111, 112]⟩] ++ cur = (actW x).map Value.string ∧ (actW x).length = 1 + 4) := by
    rw [HW.out, hcur]
    exact ⟨rfl, rfl⟩
  clear hcur HW HC HS hb3 hgw hle ho
  go_upto_block 0 with (first | (at_builtin; refine wpList_append_own _ rfl _ _ 44 rfl w.heap.size 9 i9 (.string ByteArray.empty) 1 16 Tryd.underlying44 hi9 hy0 hy1 hy2 rfl (by decide) _ _ _ rfl hown ⟨g, 0, none⟩ _ _ cur rfl hs' hnw h1 (by unfold maxLen; omega) (by omega) hB3.size ?_; intro va wa hownA hgrowA hnilA))
  have qA := hB3.trans ((Keeps.grown (ts := [9]) hown hgrowA (by decide)).toBelow hB3.size)
  clear hown hgrowA hnilA h1 hs' hB3 hnw
  go_wp2
  go_ret
  refine ⟨_, rfl, ?_, qA⟩
  rw [HX.out.2, ← HX.out.1]
  exact hownA
end Go.Proofs.YtedjabgkdogkfaaDoor
