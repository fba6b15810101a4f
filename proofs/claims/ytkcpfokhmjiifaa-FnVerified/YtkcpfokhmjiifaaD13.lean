/-
  The drawing functions of the document's model: an odd module.
-/
import Derived.Test.YtkcpfokhmjiifaaD12
import Derived.Deep.CutRange
namespace Go.Proofs.Ytkcpfokhmjiifaa
open Go.RowKit

set_option maxRecDepth 100000 in
set_option maxHeartbeats 8000000 in
theorem drawOdd_any (W : World) (C xc M : Nat) (xa : Option Addr) (bs : List Int) (w : World) (hC : CurAt W w C xa bs xc M) (hM : M ≤ 1000000) :
    Calls Try.prog 20 #[.pointer (some ⟨C, 0, none⟩)] w fun e w' => ∃ ta tc fa fc hs, e = .returned (.agg #[.slice ta 1 tc, .slice fa (List.length hs) fc]) ∧ RowT w' w.heap.size (.slice ta 1 tc) 1 ∧ RowF w' w.heap.size (.slice fa hs.length fc) hs ∧ 1 ≤ hs.length ∧ hs.length ≤ 2 ∧ CurAt W w' C xa bs xc (M + 100) ∧ Fr C C w.heap.size w w' := by
  obtain ⟨i36, hi36, hz0, hz1, hz2⟩ := info_parts info36
  obtain ⟨i40, hi40, hy0, hy1, hy2⟩ := info_parts info40
  have hlow := hC.low
  obtain ⟨p0, s0, hcb, -⟩ := hC.blk
  have hClt := lt_block hcb
  have hW := hC.below.size
  clear hcb p0 s0
  obtain ⟨wA, hwA⟩ : ∃ wA, wA = ((w.alloc (.cells #[.slice none 0 0, .slice none 0 0] 27)).alloc (.cells #[.string ⟨#[97]⟩] 9)).alloc (.cells #[.slice (some ⟨w.heap.size + 1, 0, none⟩) 1 1, .slice none 0 0] 27) := ⟨_, rfl⟩
  have hbA : Below w.heap.size w wA := by rw [hwA]; exact (((Below.refl _ _).alloc (Nat.le_refl _) _).alloc (by simp) _).alloc (by simp; omega) _
  have hO0 : OD W w wA C xa bs xc M none 0 [] := by
    refine ⟨?_, ?_, ?_, ⟨⟨rfl, .inl ⟨rfl, rfl⟩⟩, by simp⟩, hC.later hbA, Fr.below hbA (Nat.le_refl _), hClt, by omega⟩
    · rw [hwA]; exact block_old (block_old (block_new _ _ _) _) _
    · rw [hwA]; exact block_old (by simpa using block_new (w.alloc (.cells #[.slice none 0 0, .slice none 0 0] 27)) #[.string ⟨#[97]⟩] 9) _
    · rw [hwA]; simpa using block_new ((w.alloc (.cells #[.slice none 0 0, .slice none 0 0] 27)).alloc (.cells #[.string ⟨#[97]⟩] 9)) #[.slice (some ⟨w.heap.size + 1, 0, none⟩) 1 1, .slice none 0 0] 27
  go_enter Try.func20, Try.ntmps20
  go_wp2_with fail
  rw [← hwA]
  clear hwA hbA
  refine (pick_any W C xc M xa bs _ _ hO0.cur (by omega)).mono ?_
  rintro e w1 ⟨r, rfl, r0, r1, hC1, hP⟩
  have hO1 := hO0.px hC1 hP
  obtain ⟨j0, rfl⟩ : ∃ j0 : Nat, r = j0 := ⟨r.toNat, by omega⟩
  have hj0 : j0 ≤ 1 := by omega
  clear hO0 hC1 hP r0 r1
  go_wp2
  go_loopw [4] (fun i wr => ∃ (k : Nat) (fa : Option Addr) (fc : Nat) (hs : List HF), k + hs.length = j0 + 1 ∧ i = .int .i64 k ∧ OD W w wr C xa bs xc (M + 1 + 40 * hs.length) fa fc hs) (fun i _ => (intOf i).toNat)
  case atStart => exact ⟨j0 + 1, none, 0, [], by simp, by congr 1; omega, hO1⟩
  case round =>
    obtain ⟨k, fa, fc, hs, hkn, rfl, hO⟩ := hrel
    clear hO1
    by_cases hk : 0 < k
    case neg =>
      have hk' : (k : Int) ≤ 0 := by omega
      have hlen : hs.length = j0 + 1 := by omega
      have HLN : Hid (1 ≤ hs.length ∧ hs.length ≤ 2) := ⟨by omega, by omega⟩
      have HM3 : Hid (M + 1 + 40 * hs.length ≤ M + 100) := by show _ ≤ _; omega
      clear hkn hlen
      have y1 := block_cell hO.out
      have y2 := block_cell hO.res
      have y3 := block_free hO.res
      have hr1 := block_set (i := 0) hO.res (.slice (some ⟨w.heap.size + 1, 0, none⟩) 1 1)
      have hr2 := block_set (i := 1) hr1 (.slice fa hs.length fc)
      have hsame : Same wr ((wr.setCell ⟨w.heap.size, 0, none⟩ (.slice (some ⟨w.heap.size + 1, 0, none⟩) 1 1)).setCell ⟨w.heap.size, 1, none⟩ (.slice fa hs.length fc)) := Same.set (Same.set (Same.refl _) hO.res (by omega) _ _) hr1 (by omega) _ _
      have rr := block_cell hr2
      have hT0 : RowT wr w.heap.size (.slice (some ⟨w.heap.size + 1, 0, none⟩) 1 1) 1 := ⟨[.string ⟨#[97]⟩], ⟨by simp, .inr ⟨w.heap.size + 1, 1, #[.string ⟨#[97]⟩], rfl, by omega, hO.txt, Nat.le_refl _, by unfold maxLen; omega, by simp, by simp⟩⟩, by intro u hu; simp at hu; exact ⟨_, hu, by decide⟩⟩
      have hT2 := hT0.same hsame
      have hF2 := hO.funcs.same hsame
      have hlt := hO.lt
      have hlo := hO.low
      have hC2 := (hO.cur.set (p := ⟨w.heap.size, 0, none⟩) (by simp; omega) (by simpa using hlo) (.slice (some ⟨w.heap.size + 1, 0, none⟩) 1 1)).set (p := ⟨w.heap.size, 1, none⟩) (by simp; omega) (by simpa using hlo) (.slice fa hs.length fc)
      have hR2 := (hO.fr.setFar (p := ⟨w.heap.size, 0, none⟩) (by simp) (.slice (some ⟨w.heap.size + 1, 0, none⟩) 1 1)).setFar (p := ⟨w.heap.size, 1, none⟩) (by simp) (.slice fa hs.length fc)
      clear hsame hr1 hr2 hT0
      go_wp2
      exact bodyPost_ret (v := .agg #[.slice (some ⟨w.heap.size + 1, 0, none⟩) 1 1, .slice fa hs.length fc]) (by simp [results, Try.results20, go_sem, rr]) rfl ⟨_, _, fa, fc, hs, rfl, hT2, ⟨own_low hF2.own (by omega), fun x hx => ⟨(hF2.code x hx).1.low (by omega), (hF2.code x hx).2⟩⟩, HLN.out.1, HLN.out.2, hC2.grow HM3.out, hR2⟩
    have hk' : (0 : Int) < (k : Int) := by omega
    go_wp2_with fail
    refine (pick_any W C xc _ xa bs _ _ hO.cur (by omega)).mono ?_
    rintro e w2 ⟨rp, rfl, rp0, rp1, hC2, hP2⟩
    have hO2 := hO.px hC2 hP2
    obtain ⟨X, hXe⟩ : ∃ X, X = w2.heap.size := ⟨_, rfl⟩
    obtain ⟨w3, hw3⟩ : ∃ w3, w3 = w2.alloc (.cells #[.int .i64 rp, .int .i64 2, .slice none 0 0] 36) := ⟨_, rfl⟩
    have hX := hO2.box rp
    rw [← hw3, ← hXe] at hX
    have HXE : Hid (X = w2.heap.size) := hXe
    have HW3 : Hid (w3 = w2.alloc (.cells #[.int .i64 rp, .int .i64 2, .slice none 0 0] 36)) := hw3
    have HO2 : Hid (OD W w w2 C xa bs xc (M + 1 + 40 * hs.length + 1) fa fc hs) := hO2
    have HKN : Hid (k + hs.length = j0 + 1) := hkn
    clear hO hC2 hP2 hXe hw3 hO2 hk'
    go_wp2_with fail
    rw [← HW3.out, ← HXE.out]
    refine (pick_any W C xc _ xa bs _ _ hX.cur (by omega)).mono ?_
    rintro e w4 ⟨rq, rfl, rq0, rq1, hC4, hP4⟩
    have hX4 := hX.px hC4 hP4
    obtain ⟨q, rfl⟩ : ∃ q : Nat, rq = q := ⟨rq.toNat, by omega⟩
    have hq : q ≤ 8 := by omega
    clear hX hC4 hP4 rq0 rq1 HW3
    go_wp2
    go_loopw [6] (fun i wr => ∃ (k2 n : Nat) (ca : Option Addr) (cc : Nat), k2 + n = q + 2 ∧ i = .int .i64 k2 ∧ XI W w2 wr C xa bs xc (M + 1 + 40 * hs.length + 1 + 1 + n) X rp ca n cc) (fun i _ => (intOf i).toNat)
    case atStart => exact ⟨q + 2, 0, none, 0, by omega, by congr 1; omega, hX4⟩
    case round =>
      obtain ⟨k2, n, ca, cc, hk2n, rfl, hXr⟩ := hrel
      clear hX4
      by_cases hk2 : 0 < k2
      case pos =>
        have hk2' : (0 : Int) < (k2 : Int) := by omega
        have hn : n ≤ 10 := by omega
        have hXd := hXr.later (Below.refl wr.heap.size wr).drew
        have HXD : Hid (XI W w2 wr.drew C xa bs xc (M + 1 + 40 * hs.length + 1 + 1 + n) X rp ca n cc) := hXd
        have v2 := block_cell hXr.box
        clear hXd hXr
        go_upto_region 9 with fail
        have hh : (fun w' => w'.cell? ⟨X, 2, none⟩ = some (.slice ca n cc)) wr.drew := (v2 2).trans rfl
        refine wp_region_T (Two (fun w' => w'.cell? ⟨X, 2, none⟩ = some (.slice ca n cc)) (fun _ => True) [7, 8, 9] []) (by kernel_rfl) ?_
        refine wpAnyT_take (i := 0) (fun w' => w'.cell? ⟨X, 2, none⟩ = some (.slice ca n cc)) [1, 7, 8, 9] (oi := _) (v := ?_) rfl (by kernel_rfl) (by kernel_rfl) (by kernel_rfl) (by kernel_rfl) (fun _ _ _ h => h) (by kernel_rfl) (Two.same 0) (Two.left (by decide)) ?_ hh ?_
        rotate_left
        · intro w' hSw
          have s0 := hSw
          go_simp
          try with_reducible rfl
        simp only [Act.put, List.setIfInBounds_toArray]
        refine wpAnyT_take (i := 1) (fun w' => w'.cell? ⟨X, 2, none⟩ = some (.slice ca n cc)) [7, 8, 9] (oi := _) (v := ?_) rfl (by kernel_rfl) (by kernel_rfl) (by kernel_rfl) (by kernel_rfl) (fun _ _ _ h => h) (by kernel_rfl) (Two.same 1) (Two.left (by decide)) ?_ hh ?_
        rotate_left
        · intro w' hSw
          have s0 := hSw
          go_simp
          try with_reducible rfl
        simp only [Act.put]
        refine wpAnyT_take (i := 2) (fun w' => w'.cell? ⟨X, 2, none⟩ = some (.slice ca n cc)) [3, 4, 5, 6, 7, 8, 9] (oi := _) (v := ?_) rfl (by kernel_rfl) (by kernel_rfl) (by kernel_rfl) (by kernel_rfl) (fun _ _ _ h => h) (by kernel_rfl) (Two.same 2) (Two.left (by decide)) ?_ hh ?_
        rotate_left
        · intro w' hSw
          have s0 := hSw
          go_simp
          try with_reducible rfl
        simp only [Act.put]
        clear hh v2
        refine wpAnyT_one (i := 3) (o := _) (by kernel_rfl) rfl (fun K hK => ?_)
        go_simp
        go_at_call 31
        refine (pick_any W C xc _ xa bs _ _ HXD.out.cur (by omega)).mono ?_
        rintro e w5 ⟨r5, rfl, r50, r51, hC5, hP5⟩
        have hX5 := HXD.out.px hC5 hP5
        have v5 := block_cell hX5.box
        have HX5 : Hid (XI W w2 w5 C xa bs xc (M + 1 + 40 * hs.length + 1 + 1 + n + 1) X rp ca n cc) := hX5
        obtain ⟨vs5, hown5, hvs5⟩ := hX5.code
        have hsz5 := hX5.size
        have vA := block_cell (block_old hX5.box (.cells #[.int .i64 (1 + r5), .int .i64 0] 40))
        have wv : IntKind.i64.wrap (1 + r5) = 1 + r5 := by rw [IntKind.wrap_i64]; omega
        clear hX5 hC5 hP5
        go_wp2_with fail
        refine hK.out _ _ (⟨fun _ _ => (v5 2).trans rfl, fun _ h => h⟩) ?_
        clear hK K
        refine wpAnyT_one (i := 4) (o := _) (by kernel_rfl) rfl (fun K hK => ?_)
        go_simp
        refine hK.out _ _ (Two.same 4 _) ?_
        clear hK K
        refine wpAnyT_one (i := 5) (o := _) (by kernel_rfl) rfl (fun K hK => ?_)
        go_simp
        refine hK.out _ _ (Two.same 5 _) ?_
        clear hK K
        refine wpAnyT_one (i := 6) (o := _) (by kernel_rfl) rfl (fun K hK => ?_)
        go_simp
        refine hK.out _ _ (⟨fun _ _ => (vA 2).trans rfl, fun _ h => h⟩) ?_
        clear hK K
        refine wpAnyT_one (i := 7) (o := _) (by kernel_rfl) rfl (fun K hK => ?_)
        refine step_append_lies _ (by rfl) _ _ _ (by rfl) (X + 1) 40 i40 (.agg #[.int .i64 0, .int .i64 0]) 2 16 Try.underlying34 hi40 hy0 hy1 hy2 rfl (by decide) _ _ _ (by rfl) (World.ownsRow.alloc hown5 _) ⟨w5.heap.size, 0, none⟩ 1 1 [.int .i64 (1 + r5), .int .i64 0] (by rfl) (by rfl) (World.news_of_block (cs := #[.int .i64 (1 + r5), .int .i64 0]) (t := 40) (fr := (0, 0)) (heap_alloc_new w5 _)) (by simp [Value.oneCell']) (by decide) (by unfold maxLen; omega) (by omega) (by simp; omega) (w5.heap.size + 1) (by simp) ?_
        intro g6 cp6 w6 hown6 hgrow6 hat6 hlt6
        have hk6 := Keeps.grown (ts := [40]) (World.ownsRow.alloc hown5 (.cells #[.int .i64 (1 + r5), .int .i64 0] 40)) hgrow6 (by simp)
        have hb6 := hk6.cell (block_old HX5.out.box (.cells #[.int .i64 (1 + r5), .int .i64 0] 40)) (by simp)
        have c6 := block_cell hb6
        have f6 := block_free hb6
        have hX7 := (HX5.out.later ((Below.refl w5.heap.size w5).alloc (Nat.le_refl _) (.cells #[.int .i64 (1 + r5), .int .i64 0] 40))).app hvs5 hk6 hown6
        refine hK.out _ _ (⟨fun h => absurd (by decide) h, fun _ h => h⟩) ?_
        clear hK K
        simp only [Act.put, List.setIfInBounds_toArray]
        refine wpAnyT_one (i := 8) (o := _) (by kernel_rfl) rfl (fun K hK => ?_)
        go_simp
        refine hK.out _ _ (⟨fun h => absurd (by decide) h, fun _ h => h⟩) ?_
        clear hK K
        refine wpAnyT_one (i := 9) (o := _) (by kernel_rfl) rfl (fun K hK => ?_)
        go_simp
        refine hK.out _ _ (⟨fun h => absurd (by decide) h, fun _ h => h⟩) ?_
        clear hK K
        refine wpAnyT_done (by kernel_rfl) ?_ _
        generalize (w6.setCell ⟨X, 2, none⟩ (.slice (some ⟨g6, 0, none⟩) (n + 1) cp6)) = w7 at hX7 ⊢
        clear hown5 hvs5 hsz5 v5 vA wv hown6 hgrow6 hat6 hlt6 hk6 hb6 c6 f6
        go_simp
        go_wp2
        go_roundw
        case rel => exact ⟨k2 - 1, n + 1, _, _, by omega, by congr 1; omega, hX7⟩
        case measure => simp [intOf]; omega
      have hk2' : (k2 : Int) ≤ 0 := by omega
      have hn2 : 2 ≤ n := by omega
      have hn10 : n ≤ 10 := by omega
      go_wp2_with fail
      refine (pick_any W C xc _ xa bs _ _ hXr.cur (by omega)).mono ?_
      rintro e w5 ⟨rr, rfl, rr0, rr1, hC5, hP5⟩
      have hX5 := hXr.px hC5 hP5
      clear hXr hC5 hP5
      by_cases hrr : 0 < rr
      case pos =>
        have HX5 : Hid (XI W w2 w5 C xa bs xc (M + 1 + 40 * hs.length + 1 + 1 + n + 1) X rp ca n cc) := hX5
        obtain ⟨vs5, hown5, hvs5⟩ := hX5.code
        have hsz5 := hX5.size
        have v5 := block_cell hX5.box
        have vA := block_cell (block_old hX5.box (.cells #[.int .i64 25, .int .i64 0] 40))
        clear hX5
        go_wp2_with (at_builtin; refine wpList_append_lies _ rfl _ _ 34 rfl (X + 1) 40 i40 (.agg #[.int .i64 0, .int .i64 0]) 2 16 Try.underlying34 hi40 hy0 hy1 hy2 rfl (by decide) _ _ _ rfl (World.ownsRow.alloc hown5 _) ⟨w5.heap.size, 0, none⟩ 1 1 [.int .i64 25, .int .i64 0] rfl rfl (World.news_of_block (cs := #[.int .i64 25, .int .i64 0]) (t := 40) (fr := (0, 0)) (heap_alloc_new w5 _)) (by simp [Value.oneCell']) (by decide) (by unfold maxLen; omega) (by omega) (by simp; omega) _ rfl ?_; intro g6 cp6 w6 hown6 hgrow6 hat6 hlt6; have hk6 := Keeps.grown (ts := [40]) (World.ownsRow.alloc hown5 (.cells #[.int .i64 25, .int .i64 0] 40)) hgrow6 (by simp); have hb6 := hk6.cell (block_old HX5.out.box (.cells #[.int .i64 25, .int .i64 0] 40)) (by simp); have c6 := block_cell hb6; have f6 := block_free hb6)
        have hX7 := (HX5.out.later ((Below.refl w5.heap.size w5).alloc (Nat.le_refl _) (.cells #[.int .i64 25, .int .i64 0] 40))).app hvs5 hk6 hown6
        generalize (w6.setCell ⟨X, 2, none⟩ (.slice (some ⟨g6, 0, none⟩) (n + 1) cp6)) = w7 at hX7 ⊢
        clear hown5 hvs5 hsz5 v5 vA hown6 hgrow6 hat6 hlt6 hk6 hb6 c6 f6
        go_loopw [7] (fun i wr => ∃ (k3 : Nat), k3 ≤ n + 1 ∧ i = .int .i64 k3 ∧ XI W w2 wr C xa bs xc (M + 1 + 40 * hs.length + 1 + 1 + n + 1 + k3) X rp (some ⟨g6, 0, none⟩) (n + 1) cp6) (fun i _ => n + 1 - (intOf i).toNat)
        case atStart => exact ⟨0, by omega, rfl, hX7⟩
        case round =>
          obtain ⟨k3, hk3, rfl, hXr⟩ := hrel
          clear hX7
          by_cases hlt : k3 < n + 1
          case pos =>
            obtain ⟨g, o, a, hge, -, c0, c1, f1, -⟩ := hXr.fix hlt
            have v := block_cell hXr.box
            have HXR : Hid (XI W w2 wr C xa bs xc (M + 1 + 40 * hs.length + 1 + 1 + n + 1 + k3) X rp (some ⟨g6, 0, none⟩) (n + 1) cp6) := hXr
            have HLT : Hid (k3 < n + 1) := hlt
            have hk3a : (0 : Int) ≤ (k3 : Int) := by omega
            by_cases hj : o = 17 ∨ o = 18 ∨ o = 19
            case pos =>
              have hXd := hXr.later (Below.refl wr.heap.size wr).drew
              have HXD : Hid (XI W w2 wr.drew C xa bs xc (M + 1 + 40 * hs.length + 1 + 1 + n + 1 + k3) X rp (some ⟨g6, 0, none⟩) (n + 1) cp6) := hXd
              clear hXd hXr
              cases hge
              rcases hj with rfl | rfl | rfl
              all_goals
                go_upto_region 17 with fail
                go_region_held3 (fun w' => w'.cell? ⟨X, 2, none⟩ = some (.slice (some ⟨g6, 0, none⟩) (n + 1) cp6))
                  (first | exact (v 2).trans rfl | exact (v5 2).trans rfl | exact (block_cell (hfix5 _).box 2).trans rfl)
                  (first
                    | (go_at_call 31; refine (pick_any W C xc _ xa bs _ _ HXD.out.cur (by omega)).mono ?_; rintro e w5 ⟨r5, rfl, r50, r51, hC5, hP5⟩; have hX5 := HXD.out.px hC5 hP5; have v5 := block_cell hX5.box; obtain ⟨g', o', a', hg', -, e0, e1, ef, hfix5⟩ := hX5.fix HLT.out; cases hg'))
                have hX8 := hfix5 r5
                clear v v5 c0 c1 f1 e0 e1 ef hfix5 hX5 hC5 hP5
                go_wp2
                go_roundw
                case rel => exact ⟨k3 + 1, by have := HLT.out; omega, by go_num, hX8⟩
                case measure => have := HLT.out; simp [intOf]; omega
            have h17 : ¬ o = 17 := fun h => hj (.inl h)
            have h18 : ¬ o = 18 := fun h => hj (.inr (.inl h))
            have h19 : ¬ o = 19 := fun h => hj (.inr (.inr h))
            have b17 : (o == (17 : Int)) = false := by simpa using h17
            have b18 : (o == (18 : Int)) = false := by simpa using h18
            have b19 : (o == (19 : Int)) = false := by simpa using h19
            clear h17 h18 h19
            cases hge
            clear hj hXr
            go_wp2_with fail
            refine (once_any W C xc _ xa bs 8 _ HXR.out.cur (by omega) (by omega) (by omega)).mono ?_
            rintro e w5 ⟨rb, rfl, hC5, hP5⟩
            have hX5 := HXR.out.px hC5 hP5
            clear v c0 c1 f1 hC5 hP5 b17 b18 b19
            cases rb with
            | false =>
              go_wp2
              go_roundw
              case rel => exact ⟨k3 + 1, by have := HLT.out; omega, by go_num, hX5⟩
              case measure => have := HLT.out; simp [intOf]; omega
            | true =>
              by_cases hl : o = 6 ∨ o = 7 ∨ o = 20 ∨ o = 23
              case pos =>
                obtain ⟨g', o', a', hg', -, e0, e1, ef, hfix5⟩ := hX5.fix HLT.out
                cases hg'
                have v5 := block_cell hX5.box
                have hX8 := hfix5 1
                rcases hl with rfl | rfl | rfl | rfl
                all_goals
                  go_wp2
                  clear v5 e0 e1 ef hfix5 hX5
                  go_roundw
                  case rel => exact ⟨k3 + 1, by have := HLT.out; omega, by go_num, hX8⟩
                  case measure => have := HLT.out; simp [intOf]; omega
              have h6 : ¬ o = 6 := fun h => hl (.inl h)
              have h7 : ¬ o = 7 := fun h => hl (.inr (.inl h))
              have h20 : ¬ o = 20 := fun h => hl (.inr (.inr (.inl h)))
              have h23 : ¬ o = 23 := fun h => hl (.inr (.inr (.inr h)))
              have b6 : (o == (6 : Int)) = false := by simpa using h6
              have b7 : (o == (7 : Int)) = false := by simpa using h7
              have b20 : (o == (20 : Int)) = false := by simpa using h20
              have b23 : (o == (23 : Int)) = false := by simpa using h23
              clear hl h6 h7 h20 h23
              go_wp2
              go_roundw
              case rel => exact ⟨k3 + 1, by have := HLT.out; omega, by go_num, hX5⟩
              case measure => have := HLT.out; simp [intOf]; omega
          have hO5 := HO2.out.back hXr HXE.out
          have hsO := HO2.out.size
          have hXE := HXE.out
          have hRI : RowI wr (w.heap.size + 3) (.slice (some ⟨g6, 0, none⟩) (n + 1) cp6) (n + 1) := hXr.code.low (by omega)
          have hso := hO5.size
          have o5 := block_cell hO5.out
          have x5 := block_cell hXr.box
          have oA := block_cell (block_old hO5.out (.cells #[.int .i64 rp, .int .i64 2, .slice (some ⟨g6, 0, none⟩) (n + 1) cp6] 36))
          have HO5 : Hid (OD W w wr C xa bs xc (M + 1 + 40 * hs.length + 1 + 1 + n + 1 + k3) fa fc hs) := hO5
          have hown5 := hO5.funcs.own
          have hkn := HKN.out
          have hhl : hs.length ≤ 2 := by omega
          have hK3 : k3 ≤ n + 1 := hk3
          clear hsO hXE hO5
          go_wp2_with (at_builtin; refine wpList_append_lies _ rfl _ _ 25 rfl (w.heap.size + 3) 36 i36 (.agg #[.int .i64 0, .int .i64 0, .slice none 0 0]) 3 40 Try.underlying25 hi36 hz0 hz1 hz2 rfl (by decide) _ _ _ rfl (World.ownsRow.alloc hown5 _) ⟨wr.heap.size, 0, none⟩ 1 1 [.int .i64 rp, .int .i64 2, .slice (some ⟨g6, 0, none⟩) (n + 1) cp6] rfl rfl (World.news_of_block (cs := #[.int .i64 rp, .int .i64 2, .slice (some ⟨g6, 0, none⟩) (n + 1) cp6]) (t := 36) (fr := (0, 0)) (heap_alloc_new wr _)) (by simp [Value.oneCell']) (by decide) (by unfold maxLen; omega) (by omega) (by simp; omega) _ rfl ?_; intro g8 cp8 w8 hown8 hgrow8 hat8 hlt8; have hk8 := Keeps.grown (ts := [36]) (World.ownsRow.alloc hown5 (.cells #[.int .i64 rp, .int .i64 2, .slice (some ⟨g6, 0, none⟩) (n + 1) cp6] 36)) hgrow8 (by simp); have hb8 := hk8.cell (block_old HO5.out.out (.cells #[.int .i64 rp, .int .i64 2, .slice (some ⟨g6, 0, none⟩) (n + 1) cp6] 36)) (by simp); have c8 := block_cell hb8; have f8 := block_free hb8)
          have hO8 := (HO5.out.later ((Below.refl wr.heap.size wr).alloc (Nat.le_refl _) (.cells #[.int .i64 rp, .int .i64 2, .slice (some ⟨g6, 0, none⟩) (n + 1) cp6] 36))).add ⟨rp, 2, (some ⟨g6, 0, none⟩), n + 1, cp6⟩ (hRI.same (Same.below ((Below.refl wr.heap.size wr).alloc (Nat.le_refl _) (.cells #[.int .i64 rp, .int .i64 2, .slice (some ⟨g6, 0, none⟩) (n + 1) cp6] 36)))) (by show 1 ≤ n + 1; omega) (by show n + 1 ≤ 60000; omega) hk8 hown8
          go_roundw
          case rel => exact ⟨k - 1, _, _, hs ++ [⟨rp, 2, (some ⟨g6, 0, none⟩), n + 1, cp6⟩], by rw [List.length_append]; simp; omega, by congr 1; omega, hO8.grow (by rw [List.length_append]; simp; omega)⟩
          case measure => simp [intOf]; omega
      go_wp2
      go_loopw [7] (fun i wr => ∃ (k3 : Nat), k3 ≤ n ∧ i = .int .i64 k3 ∧ XI W w2 wr C xa bs xc (M + 1 + 40 * hs.length + 1 + 1 + n + 1 + k3) X rp ca (n) cc) (fun i _ => n - (intOf i).toNat)
      case atStart => exact ⟨0, by omega, rfl, hX5⟩
      case round =>
        obtain ⟨k3, hk3, rfl, hXr⟩ := hrel
        clear hX5
        by_cases hlt : k3 < n
        case pos =>
          obtain ⟨g, o, a, hge, -, c0, c1, f1, -⟩ := hXr.fix hlt
          have v := block_cell hXr.box
          have HXR : Hid (XI W w2 wr C xa bs xc (M + 1 + 40 * hs.length + 1 + 1 + n + 1 + k3) X rp ca (n) cc) := hXr
          have HLT : Hid (k3 < n) := hlt
          have hk3a : (0 : Int) ≤ (k3 : Int) := by omega
          by_cases hj : o = 17 ∨ o = 18 ∨ o = 19
          case pos =>
            have hXd := hXr.later (Below.refl wr.heap.size wr).drew
            have HXD : Hid (XI W w2 wr.drew C xa bs xc (M + 1 + 40 * hs.length + 1 + 1 + n + 1 + k3) X rp ca (n) cc) := hXd
            clear hXd hXr
            subst hge
            rcases hj with rfl | rfl | rfl
            all_goals
              go_upto_region 17 with fail
              go_region_held3 (fun w' => w'.cell? ⟨X, 2, none⟩ = some (.slice (some ⟨g, 0, none⟩) (n) cc))
                (first | exact (v 2).trans rfl | exact (v5 2).trans rfl | exact (block_cell (hfix5 _).box 2).trans rfl)
                (first
                  | (go_at_call 31; refine (pick_any W C xc _ xa bs _ _ HXD.out.cur (by omega)).mono ?_; rintro e w5 ⟨r5, rfl, r50, r51, hC5, hP5⟩; have hX5 := HXD.out.px hC5 hP5; have v5 := block_cell hX5.box; obtain ⟨g', o', a', hg', -, e0, e1, ef, hfix5⟩ := hX5.fix HLT.out; cases hg'))
              have hX8 := hfix5 r5
              clear v v5 c0 c1 f1 e0 e1 ef hfix5 hX5 hC5 hP5
              go_wp2
              go_roundw
              case rel => exact ⟨k3 + 1, by have := HLT.out; omega, by go_num, hX8⟩
              case measure => have := HLT.out; simp [intOf]; omega
          have h17 : ¬ o = 17 := fun h => hj (.inl h)
          have h18 : ¬ o = 18 := fun h => hj (.inr (.inl h))
          have h19 : ¬ o = 19 := fun h => hj (.inr (.inr h))
          have b17 : (o == (17 : Int)) = false := by simpa using h17
          have b18 : (o == (18 : Int)) = false := by simpa using h18
          have b19 : (o == (19 : Int)) = false := by simpa using h19
          clear h17 h18 h19
          subst hge
          clear hj hXr
          go_wp2_with fail
          refine (once_any W C xc _ xa bs 8 _ HXR.out.cur (by omega) (by omega) (by omega)).mono ?_
          rintro e w5 ⟨rb, rfl, hC5, hP5⟩
          have hX5 := HXR.out.px hC5 hP5
          clear v c0 c1 f1 hC5 hP5 b17 b18 b19
          cases rb with
          | false =>
            go_wp2
            go_roundw
            case rel => exact ⟨k3 + 1, by have := HLT.out; omega, by go_num, hX5⟩
            case measure => have := HLT.out; simp [intOf]; omega
          | true =>
            by_cases hl : o = 6 ∨ o = 7 ∨ o = 20 ∨ o = 23
            case pos =>
              obtain ⟨g', o', a', hg', -, e0, e1, ef, hfix5⟩ := hX5.fix HLT.out
              cases hg'
              have v5 := block_cell hX5.box
              have hX8 := hfix5 1
              rcases hl with rfl | rfl | rfl | rfl
              all_goals
                go_wp2
                clear v5 e0 e1 ef hfix5 hX5
                go_roundw
                case rel => exact ⟨k3 + 1, by have := HLT.out; omega, by go_num, hX8⟩
                case measure => have := HLT.out; simp [intOf]; omega
            have h6 : ¬ o = 6 := fun h => hl (.inl h)
            have h7 : ¬ o = 7 := fun h => hl (.inr (.inl h))
            have h20 : ¬ o = 20 := fun h => hl (.inr (.inr (.inl h)))
            have h23 : ¬ o = 23 := fun h => hl (.inr (.inr (.inr h)))
            have b6 : (o == (6 : Int)) = false := by simpa using h6
            have b7 : (o == (7 : Int)) = false := by simpa using h7
            have b20 : (o == (20 : Int)) = false := by simpa using h20
            have b23 : (o == (23 : Int)) = false := by simpa using h23
            clear hl h6 h7 h20 h23
            go_wp2
            go_roundw
            case rel => exact ⟨k3 + 1, by have := HLT.out; omega, by go_num, hX5⟩
            case measure => have := HLT.out; simp [intOf]; omega
        have hO5 := HO2.out.back hXr HXE.out
        have hsO := HO2.out.size
        have hXE := HXE.out
        have hRI : RowI wr (w.heap.size + 3) (.slice ca (n) cc) (n) := hXr.code.low (by omega)
        have hso := hO5.size
        have o5 := block_cell hO5.out
        have x5 := block_cell hXr.box
        have oA := block_cell (block_old hO5.out (.cells #[.int .i64 rp, .int .i64 2, .slice ca (n) cc] 36))
        have HO5 : Hid (OD W w wr C xa bs xc (M + 1 + 40 * hs.length + 1 + 1 + n + 1 + k3) fa fc hs) := hO5
        have hown5 := hO5.funcs.own
        have hkn := HKN.out
        have hhl : hs.length ≤ 2 := by omega
        have hK3 : k3 ≤ n := hk3
        clear hsO hXE hO5
        go_wp2_with (at_builtin; refine wpList_append_lies _ rfl _ _ 25 rfl (w.heap.size + 3) 36 i36 (.agg #[.int .i64 0, .int .i64 0, .slice none 0 0]) 3 40 Try.underlying25 hi36 hz0 hz1 hz2 rfl (by decide) _ _ _ rfl (World.ownsRow.alloc hown5 _) ⟨wr.heap.size, 0, none⟩ 1 1 [.int .i64 rp, .int .i64 2, .slice ca (n) cc] rfl rfl (World.news_of_block (cs := #[.int .i64 rp, .int .i64 2, .slice ca (n) cc]) (t := 36) (fr := (0, 0)) (heap_alloc_new wr _)) (by simp [Value.oneCell']) (by decide) (by unfold maxLen; omega) (by omega) (by simp; omega) _ rfl ?_; intro g8 cp8 w8 hown8 hgrow8 hat8 hlt8; have hk8 := Keeps.grown (ts := [36]) (World.ownsRow.alloc hown5 (.cells #[.int .i64 rp, .int .i64 2, .slice ca (n) cc] 36)) hgrow8 (by simp); have hb8 := hk8.cell (block_old HO5.out.out (.cells #[.int .i64 rp, .int .i64 2, .slice ca (n) cc] 36)) (by simp); have c8 := block_cell hb8; have f8 := block_free hb8)
        have hO8 := (HO5.out.later ((Below.refl wr.heap.size wr).alloc (Nat.le_refl _) (.cells #[.int .i64 rp, .int .i64 2, .slice ca (n) cc] 36))).add ⟨rp, 2, ca, n, cc⟩ (hRI.same (Same.below ((Below.refl wr.heap.size wr).alloc (Nat.le_refl _) (.cells #[.int .i64 rp, .int .i64 2, .slice ca (n) cc] 36)))) (by show 1 ≤ n; omega) (by show n ≤ 60000; omega) hk8 hown8
        go_roundw
        case rel => exact ⟨k - 1, _, _, hs ++ [⟨rp, 2, ca, n, cc⟩], by rw [List.length_append]; simp; omega, by congr 1; omega, hO8.grow (by rw [List.length_append]; simp; omega)⟩
        case measure => simp [intOf]; omega
end Go.Proofs.Ytkcpfokhmjiifaa
