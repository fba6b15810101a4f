/-
  What flowIn and oneWay return.
-/
import Derived.Test.YthhchlceogbbhaaDoorL6
import Derived.Deep.RegionHeld3
namespace Go.Proofs.YthhchlceogbbhaaDoor
open Go.RowKit

/-- What flowIn is to answer. -/
def FPost (ts : List ByteArray) (fs : List Fn) (f : Int) (e : Ending) : Prop :=
  (∃ (k : Nat) (hk : k < fs.length) (d : List Int), f = k ∧ Good ts fs ∧ Done fs fs[k].code d ∧ e = .returned (.tuple #[fv (flowB (jl fs[k].code d fs[k].code.length)), .bool true])) ∨
  (¬ (Good ts fs ∧ 0 ≤ f ∧ f < fs.length) ∧ e = .returned (.tuple #[fv ((0, 0), (0, 0)), .bool false]))

theorem four_set {W : World} {R : Nat} {x y z u : Value} (h : W.heap[R]? = some (.cells #[.int .u64 0, .int .u64 0, .int .u64 0, .int .u64 0] 47 (0, 0))) : ((((W.setCell ⟨R, 0, none⟩ x).setCell ⟨R, 1, none⟩ y).setCell ⟨R, 2, none⟩ z).setCell ⟨R, 3, none⟩ u).heap[R]? = some (.cells #[x, y, z, u] 47 (0, 0)) := by
  have := block_set (i := 3) (block_set (i := 2) (block_set (i := 1) (block_set (i := 0) h x) y) z) u
  simpa using this

theorem flowOf_at (g cap cc : Nat) (ca : Option Addr) (code : List (Int × Int)) (d : List Int) (w : World) (HJ : JOk code) (hd : d.length = code.length) (hcode : CodeAt w 0 ca code) (hH : Ht w g cap d) (h1c : 0 < code.length) :
    Calls Tryd.prog 33 #[.slice ca code.length cc, .slice (some ⟨g, 0, none⟩) code.length code.length] w fun e w' => ∃ x y z u : Nat, Hid (flowB (jl code d code.length) = ((x, y), (z, u))) ∧ e = .returned (.agg #[.int .u64 (x : Int), .int .u64 (y : Int), .int .u64 (z : Int), .int .u64 (u : Int)]) ∧ Below w.heap.size w w' :=
  (flowOf_any g cap cc ca code d w HJ hd hcode hH h1c).mono fun _ _ ⟨h1, h2⟩ => ⟨_, _, _, _, rfl, h1, h2⟩

set_option maxRecDepth 100000 in
set_option maxHeartbeats 4000000 in
theorem flowIn_any (a1 a2 : Option Addr) (c1 c2 : Nat) (ts : List ByteArray) (fs : List Fn) (f : Int) (w : World) (hs : Small ts fs) (hm : StrsAt w 0 a1 ts) (hm2 : FnsAt w 0 a2 fs) :
    Calls Tryd.prog 19 #[.agg #[.slice a1 ts.length c1, .slice a2 fs.length c2], .int .i64 f] w fun e w' => FPost ts fs f e ∧ Below w.heap.size w w' := by
  have hn := hs.funcs
  have hbA : Below w.heap.size w ((w.alloc (.cells #[.slice a1 ts.length c1, .slice a2 fs.length c2] 27)).alloc (.cells #[.int .u64 0, .int .u64 0, .int .u64 0, .int .u64 0] 47)) := ((Below.refl _ _).alloc (Nat.le_refl _) _).alloc (by simp) _
  have hM0 := block_old (block_new w #[.slice a1 ts.length c1, .slice a2 fs.length c2] 27) (.cells #[.int .u64 0, .int .u64 0, .int .u64 0, .int .u64 0] 47)
  have hR0 := block_new (w.alloc (.cells #[.slice a1 ts.length c1, .slice a2 fs.length c2] 27)) #[.int .u64 0, .int .u64 0, .int .u64 0, .int .u64 0] 47
  rw [World.size_alloc] at hR0
  have m0 := block_cell hM0
  have r0 := block_cell hR0
  have r1 := block_free hR0
  by_cases hf0 : f < 0
  · have hno : Hid (¬ (Good ts fs ∧ 0 ≤ f ∧ f < fs.length)) := fun h => by omega
    go_enter Tryd.func19, Tryd.ntmps19
    go_wp2
    refine bodyPost_ret (v := .tuple #[.agg #[.int .u64 0, .int .u64 0, .int .u64 0, .int .u64 0], .bool false]) (by simp [results, Tryd.results19, go_sem]) rfl ⟨.inr ⟨hno.out, rfl⟩, hbA⟩
  by_cases hf1 : (fs.length : Int) ≤ f
  · have hno : Hid (¬ (Good ts fs ∧ 0 ≤ f ∧ f < fs.length)) := fun h => by omega
    go_enter Tryd.func19, Tryd.ntmps19
    go_wp2
    refine bodyPost_ret (v := .tuple #[.agg #[.int .u64 0, .int .u64 0, .int .u64 0, .int .u64 0], .bool false]) (by simp [results, Tryd.results19, go_sem]) rfl ⟨.inr ⟨hno.out, rfl⟩, hbA⟩
  obtain ⟨k, rfl⟩ : ∃ k : Nat, f = (k : Int) := ⟨f.toNat, by omega⟩
  have hk : k < fs.length := by omega
  clear m0 r0 r1
  have m0 := block_cell hM0
  go_enter Tryd.func19, Tryd.ntmps19
  go_wp2_with fail
  refine (iAll_any _ _ _ _ ts fs _ hs (hm.mono hbA) (hm2.mono hbA)).mono ?_
  rintro e w1 ⟨⟨v, c, f', a', rfl, hV, hHs⟩, hb⟩
  have hG := hV.good
  have hB1 := hbA.trans (hb.mono hbA.size)
  have hM1 := block_old (block_kept hM0 hb) (.cells #[.int .i64 c, .int .i64 f', .int .i64 a'] 61)
  have hR1 := block_old (block_kept hR0 hb) (.cells #[.int .i64 c, .int .i64 f', .int .i64 a'] 61)
  have hX1 := block_new w1 #[.int .i64 c, .int .i64 f', .int .i64 a'] 61
  have hB2 : Below w.heap.size w (w1.alloc (.cells #[.int .i64 c, .int .i64 f', .int .i64 a'] 61)) := hB1.alloc hB1.size _
  clear m0 hV hM0 hR0 hbA hb
  by_cases hc0 : c = 0
  case neg =>
    have hno : Hid (¬ (Good ts fs ∧ 0 ≤ (k : Int) ∧ (k : Int) < fs.length)) := fun h => hc0 (hG.2 h.1)
    have r0 := block_cell hR1
    have r1 := block_free hR1
    have rr := block_cell (four_set (x := .int .u64 0) (y := .int .u64 0) (z := .int .u64 0) (u := .int .u64 0) hR1)
    have hB9 := (((hB2.setCell (p := ⟨w.heap.size + 1, 0, none⟩) (by simp) (.int .u64 0)).setCell (p := ⟨w.heap.size + 1, 1, none⟩) (by simp) (.int .u64 0)).setCell (p := ⟨w.heap.size + 1, 2, none⟩) (by simp) (.int .u64 0)).setCell (p := ⟨w.heap.size + 1, 3, none⟩) (by simp) (.int .u64 0)
    have hc0' : (c != 0) = true := by simpa using hc0
    clear hG hHs
    go_wp2
    refine bodyPost_ret (v := .tuple #[.agg #[.int .u64 0, .int .u64 0, .int .u64 0, .int .u64 0], .bool false]) (by simp [results, Tryd.results19, go_sem, rr]) rfl ⟨.inr ⟨hno.out, rfl⟩, hB9⟩
  subst hc0
  have HG : Hid (Good ts fs) := hG.1 rfl
  obtain ⟨G, rfl, hHs'⟩ := hHs rfl
  clear hG hHs
  have hHs2 := hHs'.mono (w' := w1.alloc (.cells #[.int .i64 0, .int .i64 f', .int .i64 a'] 61)) ((Below.refl _ _).alloc (Nat.le_refl _) _)
  obtain ⟨g, d, hcell, hD, hH⟩ := hHs2.at hk hk
  obtain ⟨b, off, ca, cc, rfl, -, d1, d2, d3, d4⟩ := hm2 k hk
  have d3' := cell_later hB2 d3
  have d4' := d4.mono hB2
  obtain ⟨G1, G2, G3⟩ := gj_of HG.out hk hD
  have F := fine_of G3 hk
  have HD : Hid (Done fs fs[k].code d) := hD
  have HLD : Hid (d.length = fs[k].code.length) := (hD.hts F).len
  clear d1 d2 d4 hHs' hD
  have x1 := block_cell hX1
  have hbw : b < w.heap.size := World.block_lt_of_cell? w _ d3
  have hGR : G ≠ w.heap.size + 1 := by
    obtain ⟨-, cur, h1, -⟩ := hHs2
    intro e; rw [e, hR1] at h1; simp at h1
  clear d3 hHs2
  obtain ⟨wz, hwz⟩ : ∃ wz, wz = w1.alloc (.cells #[.int .i64 0, .int .i64 f', .int .i64 a'] 61) := ⟨_, rfl⟩
  go_wp2
  rw [← hwz] at hM1 hR1 hB2 hcell hH d3' d4' ⊢
  have HS : Hid (∀ w', Below wz.heap.size wz w' → w'.cell? ⟨w.heap.size, 1, none⟩ = some (.slice (some ⟨b, off, none⟩) fs.length c2) ∧ w'.cell? ⟨b, off + k * 3 + 2, none⟩ = some (.slice ca fs[k].code.length cc) ∧ w'.cell? ⟨G, k, none⟩ = some (.slice (some ⟨g, 0, none⟩) fs[k].code.length fs[k].code.length)) := fun w' hb => ⟨by rw [block_cell (block_kept hM1 hb)]; rfl, cell_later hb d3', cell_later hb hcell⟩
  have HS4 : Hid (∀ (w' : World) x y z u, Below wz.heap.size wz w' → (fun w' => w'.cell? ⟨w.heap.size, 1, none⟩ = some (.slice (some ⟨b, off, none⟩) fs.length c2) ∧ w'.cell? ⟨b, off + k * 3 + 2, none⟩ = some (.slice ca fs[k].code.length cc) ∧ w'.cell? ⟨G, k, none⟩ = some (.slice (some ⟨g, 0, none⟩) fs[k].code.length fs[k].code.length)) ((((w'.setCell ⟨w.heap.size + 1, 0, none⟩ x).setCell ⟨w.heap.size + 1, 1, none⟩ y).setCell ⟨w.heap.size + 1, 2, none⟩ z).setCell ⟨w.heap.size + 1, 3, none⟩ u)) := fun w' x y z u hb => by
    have keep : ∀ (q o : Nat), q ≠ w.heap.size + 1 → ((((w'.setCell ⟨w.heap.size + 1, 0, none⟩ x).setCell ⟨w.heap.size + 1, 1, none⟩ y).setCell ⟨w.heap.size + 1, 2, none⟩ z).setCell ⟨w.heap.size + 1, 3, none⟩ u).cell? ⟨q, o, none⟩ = w'.cell? ⟨q, o, none⟩ := fun q o hne => World.cell?_of_block (by rw [Below.heap_setCell _ _ _ _ hne, Below.heap_setCell _ _ _ _ hne, Below.heap_setCell _ _ _ _ hne, Below.heap_setCell _ _ _ _ hne])
    refine ⟨?_, ?_, ?_⟩
    · rw [keep _ _ (by omega)]; exact (HS.out w' hb).1
    · rw [keep _ _ (by omega)]; exact (HS.out w' hb).2.1
    · rw [keep _ _ hGR]; exact (HS.out w' hb).2.2
  obtain ⟨j0, j1, j2⟩ := HS.out wz (Below.refl _ _)
  have q : Below wz.heap.size wz wz.drew := (Below.refl _ _).drew
  have HR : Hid (wz.heap[w.heap.size + 1]? = some (.cells #[.int .u64 0, .int .u64 0, .int .u64 0, .int .u64 0] 47 (0, 0))) := hR1
  have HB : Hid (Below w.heap.size w wz) := hB2
  clear hM1 hR1 hB2 hcell d3' x1 hX1 hwz hB1
  go_region_held3 (fun w' => w'.cell? ⟨w.heap.size, 1, none⟩ = some (.slice (some ⟨b, off, none⟩) fs.length c2) ∧ w'.cell? ⟨b, off + k * 3 + 2, none⟩ = some (.slice ca fs[k].code.length cc) ∧ w'.cell? ⟨G, k, none⟩ = some (.slice (some ⟨g, 0, none⟩) fs[k].code.length fs[k].code.length))
    (first | exact ⟨j0, j1, j2⟩ | exact HS.out _ q | exact HS4.out _ _ _ _ _ q)
    (first
      | (go_at_call 33; refine (flowOf_at g _ cc ca fs[k].code d _ G2 HLD.out (by exact d4'.mono q) (by exact hH.mono q) G1.one).mono ?_; rintro e w5 ⟨xx, yy, zz, uu, HFB, rfl, kd⟩; have q := q.trans (kd.mono q.size); have hR5 := block_kept HR.out q; have r5 := block_cell hR5; have r6 := block_free hR5))
  have rr := block_cell (four_set (x := .int .u64 (xx : Int)) (y := .int .u64 (yy : Int)) (z := .int .u64 (zz : Int)) (u := .int .u64 (uu : Int)) hR5)
  have hB6 := HB.out.trans (q.mono HB.out.size)
  have hB9 := (((hB6.setCell (p := ⟨w.heap.size + 1, 0, none⟩) (by simp) (.int .u64 (xx : Int))).setCell (p := ⟨w.heap.size + 1, 1, none⟩) (by simp) (.int .u64 (yy : Int))).setCell (p := ⟨w.heap.size + 1, 2, none⟩) (by simp) (.int .u64 (zz : Int))).setCell (p := ⟨w.heap.size + 1, 3, none⟩) (by simp) (.int .u64 (uu : Int))
  go_wp2
  refine bodyPost_ret (v := .tuple #[.agg #[.int .u64 (xx : Int), .int .u64 (yy : Int), .int .u64 (zz : Int), .int .u64 (uu : Int)], .bool true]) (by simp [results, Tryd.results19, go_sem, rr]) rfl ⟨.inl ⟨k, hk, d, rfl, HG.out, HD.out, ?_⟩, hB9⟩
  rw [HFB.out]
  rfl
end Go.Proofs.YthhchlceogbbhaaDoor
