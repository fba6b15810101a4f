/-
  A site at a place that is not watched yet is added: (profile).add.
  Sites are added to a profile, one behind the other: (profile).addAll.
  maps.Keys of a profile: its places come, each once, in some order.
  maps.Keys(p)'s iterator: whatever a round does that keeps its word.
-/
import Derived.Test.YtmmcockkbhnopaaGreatOV47
import Derived.Shelf.AbstractIn
import Derived.RangeFuncSeq
import Derived.RangeFuncGives
import Derived.Sort.MapsRangeIn
import Derived.Maps.RangeRun
import Derived.WalkKit
import Derived.OwnWalkIn
import Derived.TacticsInMore
import Derived.RegionIn
import Derived.LoopNIn
import Derived.LoopIn
import Derived.RangeFuncStops
import Derived.RangeFuncKeeps
namespace Go.Proofs.YtmmcockkbhnopaaGreat
open Go.RowKit

theorem But.set (g : Nat) (w : World) (o : Obj) : But g w (ChangeMaps.setBlock w g o) :=
  ⟨rfl, rfl, rfl, by simp [ChangeMaps.setBlock], fun k _ hg => by simp [ChangeMaps.setBlock, Ne.symm hg]⟩
theorem set_at (g : Nat) (w : World) (o : Obj) (h : g < w.heap.size) : (ChangeMaps.setBlock w g o).heap[g]? = some o := by
  simp [ChangeMaps.setBlock, h]
theorem cell_not_map {w : World} {b b2 i : Nat} {v : Value} {es : Array MapEntry} {c : Nat} (hc : w.cell? ⟨b2, i, none⟩ = some v) (hm : w.heap[b]? = some (.map es c)) : b2 ≠ b := by
  intro e
  subst e
  simp [World.cell?, hm] at hc
theorem But.cell {g b i : Nat} {w w' : World} {v : Value} (h : But g w w') (hb : b ≠ g) (hv : w.cell? ⟨b, i, none⟩ = some v) : w'.cell? ⟨b, i, none⟩ = some v := by
  have hlt : b < w.heap.size := by
    rcases Nat.lt_or_ge b w.heap.size with q | q
    · exact q
    · simp [World.cell?, Array.getElem?_eq_none q] at hv
  have := h.block b hlt hb
  simp only [World.cell?, this] at hv ⊢
  exact hv
theorem Prf.push {w w' : World} {lo b : Nat} {op : Int → Int → Int} {ws : List Wt} {W : Wt} (h : Prf w lo b op ws) (hm : MapW w' b (ws ++ [W])) (hb : But b w w') (h0 : WAt w' W) (hlo : lo ≤ W.g) (hg : w.heap.size ≤ W.g) (hno : ∀ V ∈ ws, ¬ (V.f = W.f ∧ V.p = W.p)) (hk : W.c = decide (op W.f W.p = 23)) : Prf w' lo b op (ws ++ [W]) := by
  refine ⟨hm, h.lob, ?_, ?_, ?_, ?_⟩
  · intro V hV
    rcases List.mem_append.1 hV with hV | hV
    · exact ⟨hb.kept (h.not_map hV).symm (h.cells V hV).1, (h.cells V hV).2⟩
    · rw [List.mem_singleton.1 hV]; exact ⟨h0, hlo⟩
  · rw [List.pairwise_append]
    refine ⟨h.one, by simp, fun V hV U hU => ?_⟩
    rw [List.mem_singleton.1 hU]
    have := lt_sizez (h.cells V hV).1
    omega
  · unfold Places
    rw [List.pairwise_append]
    refine ⟨h.places, by simp, fun V hV U hU => ?_⟩
    rw [List.mem_singleton.1 hU]
    exact hno V hV
  · intro V hV
    rcases List.mem_append.1 hV with hV | hV
    · exact h.kinds V hV
    · rw [List.mem_singleton.1 hV]; exact hk
theorem joinAt_new {ws : List Wt} {W : Wt} {s : Si} (hno : ∀ V ∈ ws, ¬ (V.f = s.f ∧ V.p = s.pc)) (h1 : W.f = s.f) (h2 : W.p = s.pc) : joinAt (ws ++ [W]) s = ws ++ [joinW W s] := by
  unfold joinAt
  rw [List.map_append]
  congr 1
  · rw [List.map_congr_left (g := id) (fun V hV => by rw [if_neg (hno V hV)]; rfl), List.map_id]
  · simp [h1, h2]
theorem used_new {n : Nat} {ws : List Wt} {W : Wt} {s : Si} (h : Used n ws) (hx : W.x = 0) (ho : W.o = 0) (hs : OkS W.c s) : Used (n + 1) (ws ++ [joinW W s]) := by
  intro V hV
  rcases List.mem_append.1 hV with hV | hV
  · obtain ⟨⟨k1, k2, k3, k4⟩, k5⟩ := h V hV
    exact ⟨⟨k1, by omega, k3, by omega⟩, k5⟩
  · rw [List.mem_singleton.1 hV]
    exact join_ok ⟨by omega, by omega, by omega, by omega⟩ hs

set_option maxRecDepth 100000 in
set_option maxHeartbeats 8000000 in
theorem addNew_any (a1 a2 : Option Addr) (nt c1 c2 : Nat) (fs : List Fn) (b lo n : Nat) (ws : List Wt) (sf sp : Nat) (sn tg : Int) (w : World) (hS : SiteP fs ⟨sf, sp, sn, tg⟩) (hfn : FnsAt w 0 a2 fs) (hP : Prf w lo b (opD fs) ws) (hU : Used n ws) (hlo : lo ≤ w.heap.size) (hno : ∀ W ∈ ws, ¬ (W.f = (sf : Int) ∧ W.p = (sp : Int))) :
    Calls Tryz.prog 74 #[.map (some b), .agg #[.slice a1 nt c1, .slice a2 fs.length c2], .agg #[.int .i64 (sf : Int), .int .i64 (sp : Int), .int .i64 sn, .int .i64 tg]] w (AddPost lo b n fs ws ⟨sf, sp, sn, tg⟩ w) := by
  have hOS := site_okS hS
  obtain ⟨hf, hp, -⟩ : ∃ (hf : sf < fs.length) (hp : sp < fs[sf].code.length), True := by
    obtain ⟨-, -, hf, hp, -⟩ := hS
    simp only [Int.toNat_natCast] at hf hp
    exact ⟨hf, hp, trivial⟩
  have hop : opD fs (sf : Int) (sp : Int) = fs[sf].code[sp].1 := by unfold opD; rw [insD_hit hf hp]; rfl
  obtain ⟨b2, off2, ca, cc, rfl, -, -, -, f2, hcode⟩ := hfn sf hf
  obtain ⟨b3, off3, rfl, -, d0, -⟩ := hcode sp hp
  obtain ⟨op, hopd⟩ : ∃ op, op = fs[sf].code[sp].1 := ⟨_, rfl⟩
  rw [← hopd] at hop d0
  have HOP := hidz hop
  have HOS := hidz hOS
  have hcLen : (sp : Int) < (fs[sf].code.length : Int) := by omega
  have hfLen : (sf : Int) < (fs.length : Int) := by omega
  generalize fs[sf].code.length = cl at f2 hcLen
  obtain ⟨esm, clk, hmap, hents⟩ := hP.map
  have hb2 : b2 ≠ b := cell_not_map f2 hmap
  have hb3 : b3 ≠ b := cell_not_map d0 hmap
  have hbs : b < w.heap.size := lt_sizez hmap
  obtain ⟨wA, hwA⟩ : ∃ wA, wA = (w.alloc (.cells #[.slice a1 nt c1, .slice (some ⟨b2, off2, none⟩) fs.length c2] 40)).alloc (.cells #[.int .i64 (sf : Int), .int .i64 (sp : Int), .int .i64 sn, .int .i64 tg] 68) := ⟨_, rfl⟩
  have hbA : Below w.heap.size w wA := by rw [hwA]; exact ((Below.refl _ _).alloc (Nat.le_refl _) _).alloc (by simp) _
  have hX : wA.heap[w.heap.size + 1]? = some (.cells #[.int .i64 (sf : Int), .int .i64 (sp : Int), .int .i64 sn, .int .i64 tg] 68 (0, 0)) := by rw [hwA]; exact block_new_at _ _ _ _ (by simp)
  have hM : wA.heap[w.heap.size]? = some (.cells #[.slice a1 nt c1, .slice (some ⟨b2, off2, none⟩) fs.length c2] 40 (0, 0)) := by rw [hwA]; exact block_old (block_new _ _ _) _
  have HUS := hidz hU
  have HNO := hidz hno
  have HP := hidz hP
  have x0 := block_cell hX
  clear hU hP hno hS hcode hopd hop hOS hmap hents hfn
  go_enter Tryz.func74, Tryz.ntmps74
  go_wp2_with fail
  rw [← hwA]
  clear hwA x0
  refine (placeOf_any (sf : Int) (sp : Int) sn tg wA).mono ?_
  rintro e w1 ⟨rfl, hb1⟩
  obtain ⟨wC, hwC⟩ : ∃ wC, wC = w1.alloc (.cells #[.int .i64 (sf : Int), .int .i64 (sp : Int)] 134) := ⟨_, rfl⟩
  have hbC : Below w1.heap.size w1 wC := by rw [hwC]; exact (Below.refl _ _).alloc (Nat.le_refl _) _
  have hXC := block_kept (block_kept hX hb1) hbC
  have hMC := block_kept (block_kept hM hb1) hbC
  have hPC : wC.heap[w1.heap.size]? = some (.cells #[.int .i64 (sf : Int), .int .i64 (sp : Int)] 134 (0, 0)) := by rw [hwC]; exact block_new _ _ _
  have hBC := hbA.trans ((hb1.trans (hbC.mono hb1.size)).mono hbA.size)
  have HPC := hidz (HP.out.mono hBC)
  have hl1 := look_no (sf : Int) (sp : Int) b ws wC HPC.out.map HNO.out
  rw [hwC] at hl1
  have hsz1 : w.heap.size ≤ w1.heap.size := Nat.le_trans hbA.size hb1.size
  have HBC := hidz hBC
  have HXC := hidz hXC
  have HMC := hidz hMC
  have HPP := hidz hPC
  have HF2 := hidz (cell_later hBC f2)
  have HD0 := hidz (cell_later hBC d0)
  clear hb1 hX hM hbA hbC hXC hMC hPC hBC HP f2 d0
  go_upto_region 4 with fail
  rw [← hwC]
  clear hwC hl1
  obtain ⟨gp, hgp⟩ : ∃ gp, gp = w1.heap.size := ⟨_, rfl⟩
  have hne1 : gp ≠ b := by omega
  have hne2 : w.heap.size + 1 ≠ b := by omega
  have hne3 : w.heap.size ≠ b := by omega
  have hgpw : w.heap.size ≤ gp := by omega
  rw [← hgp] at HPP ⊢
  clear hgp hsz1
  have HS : Hid (∀ w', But b wC w' → w'.cell? ⟨gp, 0, none⟩ = some (.int .i64 (sf : Int)) ∧ w'.cell? ⟨gp, 1, none⟩ = some (.int .i64 (sp : Int)) ∧ w'.cell? ⟨w.heap.size, 1, none⟩ = some (.slice (some ⟨b2, off2, none⟩) fs.length c2) ∧ w'.cell? ⟨b2, off2 + sf * 3 + 2, none⟩ = some (.slice (some ⟨b3, off3, none⟩) cl cc) ∧ w'.cell? ⟨b3, off3 + sp * 2, none⟩ = some (.int .i64 op)) := fun w' q => ⟨by rw [block_cell (q.kept hne1 HPP.out)]; rfl, by rw [block_cell (q.kept hne1 HPP.out)]; rfl, by rw [block_cell (q.kept hne3 HMC.out)]; rfl, q.cell hb2 HF2.out, q.cell hb3 HD0.out⟩
  have HBS := hidz hbs
  have hh : (fun w' : World => w'.cell? ⟨gp, 0, none⟩ = some (.int .i64 (sf : Int)) ∧ w'.cell? ⟨gp, 1, none⟩ = some (.int .i64 (sp : Int)) ∧ w'.cell? ⟨w.heap.size, 1, none⟩ = some (.slice (some ⟨b2, off2, none⟩) fs.length c2) ∧ w'.cell? ⟨b2, off2 + sf * 3 + 2, none⟩ = some (.slice (some ⟨b3, off3, none⟩) cl cc) ∧ w'.cell? ⟨b3, off3 + sp * 2, none⟩ = some (.int .i64 op)) _ := HS.out wC.drew (But.of_below (Below.refl _ _).drew)
  refine h_begin (fun w' : World => w'.cell? ⟨gp, 0, none⟩ = some (.int .i64 (sf : Int)) ∧ w'.cell? ⟨gp, 1, none⟩ = some (.int .i64 (sp : Int)) ∧ w'.cell? ⟨w.heap.size, 1, none⟩ = some (.slice (some ⟨b2, off2, none⟩) fs.length c2) ∧ w'.cell? ⟨b2, off2 + sf * 3 + 2, none⟩ = some (.slice (some ⟨b3, off3, none⟩) cl cc) ∧ w'.cell? ⟨b3, off3 + sp * 2, none⟩ = some (.int .i64 op)) (by kernel_rfl) ?_
  refine h_take (i := 0) (oi := _) (v := ?_) rfl (by kernel_rfl) (by kernel_rfl) (by kernel_rfl) (fun _ _ _ h => h) (by kernel_rfl) ?_ hh ?_
  rotate_left
  · intro w' hSw
    obtain ⟨j0, j1, j2, j3, j4⟩ := hSw
    go_simp
    try with_reducible rfl
  simp only [Act.put, List.setIfInBounds_toArray]
  refine h_take (i := 1) (oi := _) (v := ?_) rfl (by kernel_rfl) (by kernel_rfl) (by kernel_rfl) (fun _ _ _ h => h) (by kernel_rfl) ?_ hh ?_
  rotate_left
  · intro w' hSw
    obtain ⟨j0, j1, j2, j3, j4⟩ := hSw
    go_simp
    try with_reducible rfl
  simp only [Act.put]
  refine h_take (i := 2) (oi := _) (v := ?_) rfl (by kernel_rfl) (by kernel_rfl) (by kernel_rfl) (fun _ _ _ h => h) (by kernel_rfl) ?_ hh ?_
  rotate_left
  · intro w' hSw
    obtain ⟨j0, j1, j2, j3, j4⟩ := hSw
    go_simp
    try with_reducible rfl
  simp only [Act.put]
  refine h_take (i := 3) (oi := _) (v := ?_) rfl (by kernel_rfl) (by kernel_rfl) (by kernel_rfl) (fun _ _ _ h => h) (by kernel_rfl) ?_ hh ?_
  rotate_left
  · intro w' hSw
    obtain ⟨j0, j1, j2, j3, j4⟩ := hSw
    go_simp
    try with_reducible rfl
  simp only [Act.put]
  refine h_take (i := 4) (oi := _) (v := ?_) rfl (by kernel_rfl) (by kernel_rfl) (by kernel_rfl) (fun _ _ _ h => h) (by kernel_rfl) ?_ hh ?_
  rotate_left
  · intro w' hSw
    obtain ⟨j0, j1, j2, j3, j4⟩ := hSw
    go_simp
    try with_reducible rfl
  simp only [Act.put]
  refine h_take (i := 5) (oi := _) (v := ?_) rfl (by kernel_rfl) (by kernel_rfl) (by kernel_rfl) (fun _ _ _ h => h) (by kernel_rfl) ?_ hh ?_
  rotate_left
  · intro w' hSw
    obtain ⟨j0, j1, j2, j3, j4⟩ := hSw
    go_simp
    try with_reducible rfl
  simp only [Act.put]
  refine h_take (i := 6) (oi := _) (v := ?_) rfl (by kernel_rfl) (by kernel_rfl) (by kernel_rfl) (fun _ _ _ h => h) (by kernel_rfl) ?_ hh ?_
  rotate_left
  · intro w' hSw
    obtain ⟨j0, j1, j2, j3, j4⟩ := hSw
    go_simp
    try with_reducible rfl
  simp only [Act.put]
  refine h_take (i := 7) (oi := _) (v := ?_) rfl (by kernel_rfl) (by kernel_rfl) (by kernel_rfl) (fun _ _ _ h => h) (by kernel_rfl) ?_ hh ?_
  rotate_left
  · intro w' hSw
    obtain ⟨j0, j1, j2, j3, j4⟩ := hSw
    go_simp
    try with_reducible rfl
  simp only [Act.put]
  refine h_take (i := 8) (oi := _) (v := ?_) rfl (by kernel_rfl) (by kernel_rfl) (by kernel_rfl) (fun _ _ _ h => h) (by kernel_rfl) ?_ hh ?_
  rotate_left
  · intro w' hSw
    obtain ⟨j0, j1, j2, j3, j4⟩ := hSw
    go_simp
    try with_reducible rfl
  simp only [Act.put]
  refine h_take (i := 9) (oi := _) (v := ?_) rfl (by kernel_rfl) (by kernel_rfl) (by kernel_rfl) (fun _ _ _ h => h) (by kernel_rfl) ?_ hh ?_
  rotate_left
  · intro w' hSw
    obtain ⟨j0, j1, j2, j3, j4⟩ := hSw
    go_simp
    try with_reducible rfl
  simp only [Act.put]
  refine h_take (i := 10) (oi := _) (v := ?_) rfl (by kernel_rfl) (by kernel_rfl) (by kernel_rfl) (fun _ _ _ h => h) (by kernel_rfl) ?_ hh ?_
  rotate_left
  · intro w' hSw
    obtain ⟨j0, j1, j2, j3, j4⟩ := hSw
    go_simp
    try with_reducible rfl
  simp only [Act.put]
  refine h_take (i := 11) (oi := _) (v := ?_) rfl (by kernel_rfl) (by kernel_rfl) (by kernel_rfl) (fun _ _ _ h => h) (by kernel_rfl) ?_ hh ?_
  rotate_left
  · intro w' hSw
    obtain ⟨j0, j1, j2, j3, j4⟩ := hSw
    go_simp
    try with_reducible rfl
  simp only [Act.put]
  refine h_take (i := 12) (oi := _) (v := ?_) rfl (by kernel_rfl) (by kernel_rfl) (by kernel_rfl) (fun _ _ _ h => h) (by kernel_rfl) ?_ hh ?_
  rotate_left
  · intro w' hSw
    obtain ⟨j0, j1, j2, j3, j4⟩ := hSw
    go_simp
    try with_reducible rfl
  simp only [Act.put]
  refine h_take (i := 13) (oi := _) (v := ?_) rfl (by kernel_rfl) (by kernel_rfl) (by kernel_rfl) (fun _ _ _ h => h) (by kernel_rfl) ?_ hh ?_
  rotate_left
  · intro w' hSw
    obtain ⟨j0, j1, j2, j3, j4⟩ := hSw
    go_simp
    try with_reducible rfl
  simp only [Act.put]
  refine h_one (i := 14) (o := _) (by kernel_rfl) rfl (fun K hK => ?_)
  go_simp
  go_at_call 109
  refine (newWatcher_any op wC.drew).mono ?_
  rintro e wN hN
  obtain ⟨rfl, hN1, hN2⟩ := hN
  have hbN : But b wC wN := But.of_below ((Below.refl _ _).drew.trans hN2)
  obtain ⟨W, hWd⟩ : ∃ W : Wt, W = ⟨(sf : Int), (sp : Int), wC.heap.size, decide (op = 23), 0, 0, 0⟩ := ⟨_, rfl⟩
  have hvW : valW ⟨0, 0, wC.drew.heap.size, decide (op = 23), 0, 0, 0⟩ = valW W := by rw [hWd]; rfl
  have hN0 : WAt wN W := by rw [hWd]; exact hN1
  rw [hvW]
  have hPN := HPC.out.mono ((Below.refl _ _).drew.trans hN2)
  have hnoW : ∀ V ∈ ws, ¬ (V.f = W.f ∧ V.p = W.p) := by rw [hWd]; exact HNO.out
  obtain ⟨es, ck, hr15, hen⟩ := put_new W b ws wN hPN.map hnoW
  rw [show keyW W = .agg #[.int .i64 (sf : Int), .int .i64 (sp : Int)] by rw [hWd]; rfl] at hr15
  obtain ⟨wM, hwM⟩ : ∃ wM, wM = ChangeMaps.setBlock wN b (.map es ck) := ⟨_, rfl⟩
  have hbM : But b wC wM := by rw [hwM]; exact hbN.trans (But.set _ _ _)
  have hszN : wC.heap.size ≤ wN.heap.size := hbN.size
  have hMM : MapW wM b (ws ++ [W]) := ⟨es, ck, by rw [hwM]; exact set_at b wN _ (Nat.lt_of_lt_of_le HBS.out (Nat.le_trans HBC.out.size hszN)), hen⟩
  have hWM : WAt wM W := by rw [hwM]; exact (But.set b wN _).kept (show W.g ≠ b by rw [hWd]; have := HBS.out; have := HBC.out.size; show wC.heap.size ≠ b; omega) hN0
  have HPM := hidz (HPC.out.push hMM hbM hWM (by rw [hWd]; exact Nat.le_trans hlo HBC.out.size) (by rw [hWd]; exact Nat.le_refl _) hnoW (by rw [hWd]; show decide (op = 23) = decide (opD fs (sf : Int) (sp : Int) = 23); rw [HOP.out]))
  have HWD := hidz hWd
  have HBM := hidz hbM
  rw [← hwM] at hr15
  clear hN1 hN2 hPN hnoW hen hMM hWM hWd hvW hN0 hwM hszN
  have hh : (fun w' : World => w'.cell? ⟨gp, 0, none⟩ = some (.int .i64 (sf : Int)) ∧ w'.cell? ⟨gp, 1, none⟩ = some (.int .i64 (sp : Int)) ∧ w'.cell? ⟨w.heap.size, 1, none⟩ = some (.slice (some ⟨b2, off2, none⟩) fs.length c2) ∧ w'.cell? ⟨b2, off2 + sf * 3 + 2, none⟩ = some (.slice (some ⟨b3, off3, none⟩) cl cc) ∧ w'.cell? ⟨b3, off3 + sp * 2, none⟩ = some (.int .i64 op)) _ := HS.out wN hbN
  refine hK.out _ _ hh ?_
  clear hK K
  try simp only [Act.put]
  refine h_one (i := 15) (o := _) (by kernel_rfl) rfl (fun K hK => ?_)
  go_simp
  have hh : (fun w' : World => w'.cell? ⟨gp, 0, none⟩ = some (.int .i64 (sf : Int)) ∧ w'.cell? ⟨gp, 1, none⟩ = some (.int .i64 (sp : Int)) ∧ w'.cell? ⟨w.heap.size, 1, none⟩ = some (.slice (some ⟨b2, off2, none⟩) fs.length c2) ∧ w'.cell? ⟨b2, off2 + sf * 3 + 2, none⟩ = some (.slice (some ⟨b3, off3, none⟩) cl cc) ∧ w'.cell? ⟨b3, off3 + sp * 2, none⟩ = some (.int .i64 op)) _ := HS.out wM HBM.out
  refine hK.out _ _ hh ?_
  clear hK K
  try simp only [Act.put]
  refine wpAnyH_done (by kernel_rfl) ?_ _
  clear HS
  go_upto_region 5 with fail
  have hW1 : W.f = (sf : Int) := by rw [HWD.out]
  have hW2 : W.p = (sp : Int) := by rw [HWD.out]
  have hWc : W.c = decide (op = 23) := by rw [HWD.out]
  have hWx : W.x = 0 ∧ W.o = 0 := by rw [HWD.out]; exact ⟨rfl, rfl⟩
  have hWg : W.g = wC.heap.size := by rw [HWD.out]
  have hg1 : gp ≠ W.g := by have := lt_sizez HPP.out; omega
  have hg2 : w.heap.size + 1 ≠ W.g := by have := lt_sizez HXC.out; omega
  have hmem : W ∈ ws ++ [W] := by simp
  have HCW := hidz (HPM.out.cells W hmem)
  have HPG := hidz (HBM.out.kept hne1 HPP.out)
  have HXG := hidz (HBM.out.kept hne2 HXC.out)
  have HMEM := hidz hmem
  have HWG := hidz hWg
  have HWW := hidz (And.intro hW1 (And.intro hW2 hWx))
  have HS : Hid (∀ w', But W.g wM w' → w'.cell? ⟨gp, 0, none⟩ = some (.int .i64 (sf : Int)) ∧ w'.cell? ⟨gp, 1, none⟩ = some (.int .i64 (sp : Int)) ∧ w'.cell? ⟨w.heap.size + 1, 0, none⟩ = some (.int .i64 (sf : Int)) ∧ w'.cell? ⟨w.heap.size + 1, 1, none⟩ = some (.int .i64 (sp : Int)) ∧ w'.cell? ⟨w.heap.size + 1, 2, none⟩ = some (.int .i64 sn) ∧ w'.cell? ⟨w.heap.size + 1, 3, none⟩ = some (.int .i64 tg) ∧ (Instr.lookup 75 (.map (some b)) (.agg #[.int .i64 (sf : Int), .int .i64 (sp : Int)]) false).run Tryz.prog w' = .ok (valW W) w') := fun w' q => ⟨by rw [block_cell (q.kept hg1 HPG.out)]; rfl, by rw [block_cell (q.kept hg1 HPG.out)]; rfl, by rw [block_cell (q.kept hg2 HXG.out)]; rfl, by rw [block_cell (q.kept hg2 HXG.out)]; rfl, by rw [block_cell (q.kept hg2 HXG.out)]; rfl, by rw [block_cell (q.kept hg2 HXG.out)]; rfl, (look_yes (sf : Int) (sp : Int) b ws [] W w' (by obtain ⟨es, c, hm, he⟩ := HPM.out.map; exact ⟨es, c, q.kept (HPM.out.not_map HMEM.out) hm, he⟩) HWW.out.1 HWW.out.2.1 HNO.out).2⟩
  have HOS2 : Hid (OkS W.c ⟨sf, sp, sn, tg⟩) := by show OkS _ _; rw [hWc, ← HOP.out]; exact HOS.out
  have HOK : Hid (OkW 1000 W) := ⟨by have := hWx.1; omega, by have := hWx.1; omega, by have := hWx.2; omega, by have := hWx.2; omega⟩
  have HFIN : Hid (∀ wX, WAt wX (joinW W ⟨sf, sp, sn, tg⟩) → But W.g wM wX → AddPost lo b n fs ws ⟨sf, sp, sn, tg⟩ w (.returned (.tuple #[])) wX) := by
    intro wX hj hb
    have hl1 : Below lo w wC := HBC.out.mono hlo
    have hl2 : Below lo w wM := But.below hl1 HBM.out HPC.out.lob (Nat.le_trans hlo HBC.out.size)
    have hl3 : Below lo w wX := But.below hl2 hb HCW.out.2 (Nat.le_trans hlo hl2.size)
    have hja : joinAt (ws ++ [W]) ⟨sf, sp, sn, tg⟩ = ws ++ [joinW W ⟨sf, sp, sn, tg⟩] := joinAt_new HNO.out HWW.out.1 HWW.out.2.1
    refine ⟨⟨_, rfl⟩, ws ++ [joinW W ⟨sf, sp, sn, tg⟩], ?_, used_new HUS.out HWW.out.2.2.1 HWW.out.2.2.2 HOS2.out, tab_new HNO.out HWW.out.1 HWW.out.2.1 HWW.out.2.2.1 HWW.out.2.2.2 HOS2.out, by simp, hl3, fun k hk hkb _ => (hb.block k (Nat.lt_of_lt_of_le hk (Nat.le_trans HBC.out.size HBM.out.size)) (by rw [HWG.out]; have := HBC.out.size; omega)).trans ((HBM.out.block k (Nat.lt_of_lt_of_le hk HBC.out.size) hkb).trans (HBC.out.block k hk)), fun V hV => ?_⟩
    · rw [← hja]
      exact HPM.out.joined HMEM.out HWW.out.1 HWW.out.2.1 hj hb
    · rcases List.mem_append.1 hV with hV | hV
      · exact .inl ⟨V, hV, rfl⟩
      · rw [List.mem_singleton.1 hV, (join_keep W _).2.2.1, HWG.out]; exact .inr HBC.out.size
  clear hW1 hW2 hWx hWg hmem hWc HWD HBS HF2 HD0 HMC
  cases hc : W.c
  · have hv : valW W = .iface 202 (.pointer (some ⟨W.g, 0, none⟩)) := by unfold valW; rw [hc]; rfl
    have HJ : Hid (Calls Tryz.prog 185 #[.pointer (some ⟨W.g, 0, none⟩), .agg #[.int .i64 (sf : Int), .int .i64 (sp : Int), .int .i64 sn, .int .i64 tg]] wM.drew (JoinPost W ⟨sf, sp, sn, tg⟩ wM.drew)) := joinNum_any W ⟨sf, sp, sn, tg⟩ wM.drew hc (HCW.out.1.mono (Below.refl _ _).drew) HOK.out
    rw [hv] at HS
    have m1 : ∀ (v : Value) (W : World), (Go.method 367 202 v "loop.example/g00094/impl.join").run Tryz.prog W = .ok (185, v) W := fun _ _ => by kernel_rfl
    clear hv HCW HPC HPP HXC hc
    have hh : (fun w' : World => w'.cell? ⟨gp, 0, none⟩ = some (.int .i64 (sf : Int)) ∧ w'.cell? ⟨gp, 1, none⟩ = some (.int .i64 (sp : Int)) ∧ w'.cell? ⟨w.heap.size + 1, 0, none⟩ = some (.int .i64 (sf : Int)) ∧ w'.cell? ⟨w.heap.size + 1, 1, none⟩ = some (.int .i64 (sp : Int)) ∧ w'.cell? ⟨w.heap.size + 1, 2, none⟩ = some (.int .i64 sn) ∧ w'.cell? ⟨w.heap.size + 1, 3, none⟩ = some (.int .i64 tg) ∧ (Instr.lookup 75 (.map (some b)) (.agg #[.int .i64 (sf : Int), .int .i64 (sp : Int)]) false).run Tryz.prog w' = .ok (.iface 202 (.pointer (some ⟨W.g, 0, none⟩))) w') _ := HS.out wM.drew (But.of_below (Below.refl _ _).drew)
    refine h_begin (fun w' : World => w'.cell? ⟨gp, 0, none⟩ = some (.int .i64 (sf : Int)) ∧ w'.cell? ⟨gp, 1, none⟩ = some (.int .i64 (sp : Int)) ∧ w'.cell? ⟨w.heap.size + 1, 0, none⟩ = some (.int .i64 (sf : Int)) ∧ w'.cell? ⟨w.heap.size + 1, 1, none⟩ = some (.int .i64 (sp : Int)) ∧ w'.cell? ⟨w.heap.size + 1, 2, none⟩ = some (.int .i64 sn) ∧ w'.cell? ⟨w.heap.size + 1, 3, none⟩ = some (.int .i64 tg) ∧ (Instr.lookup 75 (.map (some b)) (.agg #[.int .i64 (sf : Int), .int .i64 (sp : Int)]) false).run Tryz.prog w' = .ok (.iface 202 (.pointer (some ⟨W.g, 0, none⟩))) w') (by kernel_rfl) ?_
    refine h_take (i := 0) (oi := _) (v := ?_) rfl (by kernel_rfl) (by kernel_rfl) (by kernel_rfl) (fun _ _ _ h => h) (by kernel_rfl) ?_ hh ?_
    rotate_left
    · intro w' hSw
      obtain ⟨j0, j1, j2, j3, j4, j5, j6⟩ := hSw
      go_simp
      try with_reducible rfl
    simp only [Act.put, List.setIfInBounds_toArray]
    refine h_take (i := 1) (oi := _) (v := ?_) rfl (by kernel_rfl) (by kernel_rfl) (by kernel_rfl) (fun _ _ _ h => h) (by kernel_rfl) ?_ hh ?_
    rotate_left
    · intro w' hSw
      obtain ⟨j0, j1, j2, j3, j4, j5, j6⟩ := hSw
      go_simp
      try with_reducible rfl
    simp only [Act.put]
    refine h_take (i := 2) (oi := _) (v := ?_) rfl (by kernel_rfl) (by kernel_rfl) (by kernel_rfl) (fun _ _ _ h => h) (by kernel_rfl) ?_ hh ?_
    rotate_left
    · intro w' hSw
      obtain ⟨j0, j1, j2, j3, j4, j5, j6⟩ := hSw
      go_simp
      try with_reducible rfl
    simp only [Act.put]
    refine h_take (i := 3) (oi := _) (v := ?_) rfl (by kernel_rfl) (by kernel_rfl) (by kernel_rfl) (fun _ _ _ h => h) (by kernel_rfl) ?_ hh ?_
    rotate_left
    · intro w' hSw
      obtain ⟨j0, j1, j2, j3, j4, j5, j6⟩ := hSw
      go_simp
      try with_reducible rfl
    simp only [Act.put]
    refine h_one (i := 4) (o := _) (by kernel_rfl) rfl (fun K hK => ?_)
    go_simp
    go_at_call 185
    refine HJ.out.mono ?_
    rintro e wX ⟨⟨vr, rfl⟩, hP1, hP2⟩
    have hbX := (But.of_below (Below.refl _ _).drew : But W.g wM wM.drew).trans hP2
    have HR := hidz (And.intro hP1 hbX)
    clear hP1 hP2
    have hh : (fun w' : World => w'.cell? ⟨gp, 0, none⟩ = some (.int .i64 (sf : Int)) ∧ w'.cell? ⟨gp, 1, none⟩ = some (.int .i64 (sp : Int)) ∧ w'.cell? ⟨w.heap.size + 1, 0, none⟩ = some (.int .i64 (sf : Int)) ∧ w'.cell? ⟨w.heap.size + 1, 1, none⟩ = some (.int .i64 (sp : Int)) ∧ w'.cell? ⟨w.heap.size + 1, 2, none⟩ = some (.int .i64 sn) ∧ w'.cell? ⟨w.heap.size + 1, 3, none⟩ = some (.int .i64 tg) ∧ (Instr.lookup 75 (.map (some b)) (.agg #[.int .i64 (sf : Int), .int .i64 (sp : Int)]) false).run Tryz.prog w' = .ok (.iface 202 (.pointer (some ⟨W.g, 0, none⟩))) w') _ := HS.out wX hbX
    refine hK.out _ _ hh ?_
    clear hK K
    try simp only [Act.put]
    refine wpAnyH_done (by kernel_rfl) ?_ _
    go_end0
    exact HFIN.out _ HR.out.1 HR.out.2
  · have hv : valW W = .iface 197 (.pointer (some ⟨W.g, 0, none⟩)) := by unfold valW; rw [hc]; rfl
    have HJ : Hid (Calls Tryz.prog 181 #[.pointer (some ⟨W.g, 0, none⟩), .agg #[.int .i64 (sf : Int), .int .i64 (sp : Int), .int .i64 sn, .int .i64 tg]] wM.drew (JoinPost W ⟨sf, sp, sn, tg⟩ wM.drew)) := joinCall_any W ⟨sf, sp, sn, tg⟩ wM.drew hc (HCW.out.1.mono (Below.refl _ _).drew) HOK.out
    rw [hv] at HS
    have m1 : ∀ (v : Value) (W : World), (Go.method 367 197 v "loop.example/g00094/impl.join").run Tryz.prog W = .ok (181, v) W := fun _ _ => by kernel_rfl
    clear hv HCW HPC HPP HXC hc
    have hh : (fun w' : World => w'.cell? ⟨gp, 0, none⟩ = some (.int .i64 (sf : Int)) ∧ w'.cell? ⟨gp, 1, none⟩ = some (.int .i64 (sp : Int)) ∧ w'.cell? ⟨w.heap.size + 1, 0, none⟩ = some (.int .i64 (sf : Int)) ∧ w'.cell? ⟨w.heap.size + 1, 1, none⟩ = some (.int .i64 (sp : Int)) ∧ w'.cell? ⟨w.heap.size + 1, 2, none⟩ = some (.int .i64 sn) ∧ w'.cell? ⟨w.heap.size + 1, 3, none⟩ = some (.int .i64 tg) ∧ (Instr.lookup 75 (.map (some b)) (.agg #[.int .i64 (sf : Int), .int .i64 (sp : Int)]) false).run Tryz.prog w' = .ok (.iface 197 (.pointer (some ⟨W.g, 0, none⟩))) w') _ := HS.out wM.drew (But.of_below (Below.refl _ _).drew)
    refine h_begin (fun w' : World => w'.cell? ⟨gp, 0, none⟩ = some (.int .i64 (sf : Int)) ∧ w'.cell? ⟨gp, 1, none⟩ = some (.int .i64 (sp : Int)) ∧ w'.cell? ⟨w.heap.size + 1, 0, none⟩ = some (.int .i64 (sf : Int)) ∧ w'.cell? ⟨w.heap.size + 1, 1, none⟩ = some (.int .i64 (sp : Int)) ∧ w'.cell? ⟨w.heap.size + 1, 2, none⟩ = some (.int .i64 sn) ∧ w'.cell? ⟨w.heap.size + 1, 3, none⟩ = some (.int .i64 tg) ∧ (Instr.lookup 75 (.map (some b)) (.agg #[.int .i64 (sf : Int), .int .i64 (sp : Int)]) false).run Tryz.prog w' = .ok (.iface 197 (.pointer (some ⟨W.g, 0, none⟩))) w') (by kernel_rfl) ?_
    refine h_take (i := 0) (oi := _) (v := ?_) rfl (by kernel_rfl) (by kernel_rfl) (by kernel_rfl) (fun _ _ _ h => h) (by kernel_rfl) ?_ hh ?_
    rotate_left
    · intro w' hSw
      obtain ⟨j0, j1, j2, j3, j4, j5, j6⟩ := hSw
      go_simp
      try with_reducible rfl
    simp only [Act.put, List.setIfInBounds_toArray]
    refine h_take (i := 1) (oi := _) (v := ?_) rfl (by kernel_rfl) (by kernel_rfl) (by kernel_rfl) (fun _ _ _ h => h) (by kernel_rfl) ?_ hh ?_
    rotate_left
    · intro w' hSw
      obtain ⟨j0, j1, j2, j3, j4, j5, j6⟩ := hSw
      go_simp
      try with_reducible rfl
    simp only [Act.put]
    refine h_take (i := 2) (oi := _) (v := ?_) rfl (by kernel_rfl) (by kernel_rfl) (by kernel_rfl) (fun _ _ _ h => h) (by kernel_rfl) ?_ hh ?_
    rotate_left
    · intro w' hSw
      obtain ⟨j0, j1, j2, j3, j4, j5, j6⟩ := hSw
      go_simp
      try with_reducible rfl
    simp only [Act.put]
    refine h_take (i := 3) (oi := _) (v := ?_) rfl (by kernel_rfl) (by kernel_rfl) (by kernel_rfl) (fun _ _ _ h => h) (by kernel_rfl) ?_ hh ?_
    rotate_left
    · intro w' hSw
      obtain ⟨j0, j1, j2, j3, j4, j5, j6⟩ := hSw
      go_simp
      try with_reducible rfl
    simp only [Act.put]
    refine h_one (i := 4) (o := _) (by kernel_rfl) rfl (fun K hK => ?_)
    go_simp
    go_at_call 181
    refine HJ.out.mono ?_
    rintro e wX ⟨⟨vr, rfl⟩, hP1, hP2⟩
    have hbX := (But.of_below (Below.refl _ _).drew : But W.g wM wM.drew).trans hP2
    have HR := hidz (And.intro hP1 hbX)
    clear hP1 hP2
    have hh : (fun w' : World => w'.cell? ⟨gp, 0, none⟩ = some (.int .i64 (sf : Int)) ∧ w'.cell? ⟨gp, 1, none⟩ = some (.int .i64 (sp : Int)) ∧ w'.cell? ⟨w.heap.size + 1, 0, none⟩ = some (.int .i64 (sf : Int)) ∧ w'.cell? ⟨w.heap.size + 1, 1, none⟩ = some (.int .i64 (sp : Int)) ∧ w'.cell? ⟨w.heap.size + 1, 2, none⟩ = some (.int .i64 sn) ∧ w'.cell? ⟨w.heap.size + 1, 3, none⟩ = some (.int .i64 tg) ∧ (Instr.lookup 75 (.map (some b)) (.agg #[.int .i64 (sf : Int), .int .i64 (sp : Int)]) false).run Tryz.prog w' = .ok (.iface 197 (.pointer (some ⟨W.g, 0, none⟩))) w') _ := HS.out wX hbX
    refine hK.out _ _ hh ?_
    clear hK K
    try simp only [Act.put]
    refine wpAnyH_done (by kernel_rfl) ?_ _
    go_end0
    exact HFIN.out _ HR.out.1 HR.out.2
end Go.Proofs.YtmmcockkbhnopaaGreat

namespace Go.Proofs.YtmmcockkbhnopaaGreat
open Go.RowKit

theorem add_any (a1 a2 : Option Addr) (nt c1 c2 : Nat) (fs : List Fn) (b lo n : Nat) (ws : List Wt) (x : Si) (w : World) (hS : SiteP fs x) (hfn : FnsAt w 0 a2 fs) (hP : Prf w lo b (opD fs) ws) (hU : Used n ws) (hn : n ≤ 1000) (hlo : lo ≤ w.heap.size) :
    Calls Tryz.prog 74 #[.map (some b), .agg #[.slice a1 nt c1, .slice a2 fs.length c2], .agg #[.int .i64 x.f, .int .i64 x.pc, .int .i64 x.seen, .int .i64 x.target]] w (AddPost lo b n fs ws x w) := by
  by_cases hin : ∃ W ∈ ws, W.f = x.f ∧ W.p = x.pc
  · exact addKnown_any a1 a2 nt c1 c2 fs b lo n ws x w hS hP hU hn hlo hin
  · have hno : ∀ W ∈ ws, ¬ (W.f = x.f ∧ W.p = x.pc) := fun W hW h => hin ⟨W, hW, h⟩
    have hS2 := hS
    obtain ⟨h0, h1, -⟩ := hS2
    obtain ⟨xf, xp, xs, xt⟩ := x
    obtain ⟨sf, rfl⟩ : ∃ sf : Nat, xf = sf := ⟨xf.toNat, by simp at h0; omega⟩
    obtain ⟨sp, rfl⟩ : ∃ sp : Nat, xp = sp := ⟨xp.toNat, by simp at h1; omega⟩
    exact addNew_any a1 a2 nt c1 c2 fs b lo n ws sf sp xs xt w hS hfn hP hU hlo hno
theorem allC_succ (op : Int → Int → Int) (C : Ct) (l : List Si) (k : Nat) (h : k < l.length) : allC op C (l.take (k + 1)) = updC op (allC op C (l.take k)) l[k] := by
  unfold allC
  rw [List.take_succ_eq_append_getElem h, List.foldl_append]
  rfl
def AllPost (lo b n : Nat) (fs : List Fn) (ws : List Wt) (l : List Si) (w : World) : Ending → World → Prop := fun e w' => (∃ v, e = .returned v) ∧ ∃ ws', Prf w' lo b (opD fs) ws' ∧ Used (n + l.length) ws' ∧ tabW ws' = allC (opD fs) (tabW ws) l ∧ ws'.length ≤ ws.length + l.length ∧ Below lo w w'

set_option maxRecDepth 100000 in
set_option maxHeartbeats 4000000 in
theorem addAll_any (a1 a2 la : Option Addr) (nt c1 c2 lc : Nat) (fs : List Fn) (b lo n : Nat) (ws : List Wt) (l : List Si) (w : World) (hS : ∀ x ∈ l, SiteP fs x) (hl : l.length ≤ 150) (hlo : lo ≤ w.heap.size) (hfn : ∀ w', Below lo w w' → FnsAt w' 0 a2 fs) (hsl : ∀ w', Below lo w w' → SitesAt w' 0 la l) (hP : Prf w lo b (opD fs) ws) (hU : Used n ws) (hn : n ≤ 800) :
    Calls Tryz.prog 38 #[.map (some b), .agg #[.slice a1 nt c1, .slice a2 fs.length c2], .slice la l.length lc] w (AllPost lo b n fs ws l w) := by
  obtain ⟨wA, hwA⟩ : ∃ wA, wA = w.alloc (.cells #[.slice a1 nt c1, .slice a2 fs.length c2] 40) := ⟨_, rfl⟩
  have hbA : Below w.heap.size w wA := by rw [hwA]; exact (Below.refl _ _).alloc (Nat.le_refl _) _
  have hX : wA.heap[w.heap.size]? = some (.cells #[.slice a1 nt c1, .slice a2 fs.length c2] 40 (0, 0)) := by rw [hwA]; exact block_new _ _ _
  have HP0 := hidz (hP.mono hbA)
  have HU0 : Hid (Used (n + 0) ws) := hU
  have HFN := hidz hfn
  have HSL := hidz hsl
  have HS := hidz hS
  have HBA := hidz (hbA.mono hlo)
  have HX := hidz hX
  have hbw : b < w.heap.size := by obtain ⟨es, c, h1, -⟩ := hP.map; exact lt_sizez h1
  have HWN := hidz (fun (W : Wt) (hW : W ∈ ws) => lt_sizez (hP.cells W hW).1)
  clear hP hU hfn hsl hS hbA hX
  go_enter Tryz.func38, Tryz.ntmps38
  go_wp2
  rw [← hwA]
  clear hwA
  go_loopw [10] (fun i wr => ∃ (k : Nat) (vs : List Wt), k ≤ l.length ∧ i = .int .i64 k ∧ Hid (Prf wr lo b (opD fs) vs) ∧ Hid (Used (n + k) vs) ∧ Hid (tabW vs = allC (opD fs) (tabW ws) (l.take k)) ∧ Hid (vs.length ≤ ws.length + k) ∧ Hid (Below lo w wr) ∧ Hid (wr.heap[w.heap.size]? = some (.cells #[.slice a1 nt c1, .slice a2 fs.length c2] 40 (0, 0))) ∧ Hid (∀ W ∈ vs, W.g ≠ w.heap.size)) (fun i _ => l.length - (intOf i).toNat)
  case atStart => exact ⟨0, ws, by omega, rfl, HP0, HU0, hidz rfl, hidz (Nat.le_refl _), HBA, HX, hidz (fun W hW => Nat.ne_of_lt (HWN.out W hW))⟩
  case round =>
    obtain ⟨k, vs, hk, rfl, HP, HU, HT, HL, HB, HM, HNE⟩ := hrel
    clear HP0 HU0 HBA HX
    by_cases hlt : k < l.length
    · have zk : (k : Int) < (l.length : Int) := by omega
      obtain ⟨bb, off, hla, -, g0, g1, g2, g3⟩ := HSL.out wr HB.out k hlt
      subst hla
      have HSX : Hid (SiteP fs l[k]) := HS.out _ (List.getElem_mem hlt)
      have HTS := hidz (allC_succ (opD fs) (tabW ws) l k hlt)
      generalize l[k] = x at g0 g1 g2 g3 HSX HTS
      obtain ⟨wb, hwb⟩ : ∃ wb, wb = wr.alloc (.cells #[.int .i64 x.f, .int .i64 x.pc, .int .i64 x.seen, .int .i64 x.target] 68) := ⟨_, rfl⟩
      have hbb : Below wr.heap.size wr wb := by rw [hwb]; exact (Below.refl _ _).alloc (Nat.le_refl _) _
      have hlor : lo ≤ wr.heap.size := Nat.le_trans hlo HB.out.size
      have HMb := hidz (block_kept HM.out hbb)
      have HBb := hidz (HB.out.trans (hbb.mono hlor))
      have HPb := hidz (HP.out.mono hbb)
      have m0 := block_cell HM.out
      have m0b : (wr.alloc (.cells #[.int .i64 x.f, .int .i64 x.pc, .int .i64 x.seen, .int .i64 x.target] 68)).cell? ⟨w.heap.size, 0, none⟩ = some (.slice a1 nt c1) := by rw [block_cell (block_old HM.out _)]; rfl
      have m1b : (wr.alloc (.cells #[.int .i64 x.f, .int .i64 x.pc, .int .i64 x.seen, .int .i64 x.target] 68)).cell? ⟨w.heap.size, 1, none⟩ = some (.slice a2 fs.length c2) := by rw [block_cell (block_old HM.out _)]; rfl
      have HSZ := hidz hbb.size
      clear hbb
      go_wp2_with fail
      rw [← hwb]
      clear hwb g0 g1 g2 g3 m0 m0b m1b
      refine (add_any a1 a2 nt c1 c2 fs b lo (n + k) vs x wb HSX.out (HFN.out wb HBb.out) HPb.out HU.out (by omega) (Nat.le_trans hlo HBb.out.size)).mono ?_
      rintro e w2 ⟨⟨v, rfl⟩, vs2, h1, h2, h3, h4, h5, h6, h7⟩
      have hsz : wr.heap.size ≤ wb.heap.size := HSZ.out
      have hwr : w.heap.size < wr.heap.size := lt_sizez HM.out
      have hmb : w.heap.size ≠ b := by omega
      have hM2 := (h6 w.heap.size (by omega) hmb (fun W hW => (HNE.out W hW).symm)).trans HMb.out
      have HPN := hidz h1
      have HUN : Hid (Used (n + (k + 1)) vs2) := h2
      have HTN : Hid (tabW vs2 = allC (opD fs) (tabW ws) (l.take (k + 1))) := by show _ = _; rw [HTS.out, h3, HT.out]
      have HLN : Hid (vs2.length ≤ ws.length + (k + 1)) := by have := HL.out; show _ ≤ _; omega
      have HBN := hidz (HBb.out.trans h5)
      have HMN := hidz hM2
      have HNN : Hid (∀ W ∈ vs2, W.g ≠ w.heap.size) := by
        intro W hW
        rcases h7 W hW with ⟨V, hV, e⟩ | e
        · rw [← e]; exact HNE.out V hV
        · omega
      clear h1 h2 h3 h4 h5 h6 h7 hM2 hsz hwr hmb
      go_wp2
      go_roundw
      case rel => exact ⟨k + 1, vs2, by omega, by go_num, HPN, HUN, HTN, HLN, HBN, HMN, HNN⟩
      case measure => simp [intOf]; omega
    · obtain rfl : k = l.length := by omega
      have z2 : ¬ (l.length : Int) < (l.length : Int) := by omega
      go_wp2
      go_end0
      refine ⟨⟨_, rfl⟩, vs, HP.out, HU.out, ?_, HL.out, HB.out⟩
      rw [HT.out, List.take_length]
end Go.Proofs.YtmmcockkbhnopaaGreat

namespace Go.Proofs.YtmmcockkbhnopaaGreat
open Go.RowKit Go.Sort Go.ChangeMaps

section
variable {F : Fence} {n : Nat} {P : Program} {ops : Array Oper} {Q : Exit → Act → World → Prop} {rest : List Oper} {o : Oper} {a : Act} {w : World}
/-- 'range m'. -/
theorem wpListIn_rangeM (hg : o.guard = none) (m : Operand) (t : TypeId) (hop : o.op = Op.range t m) (k e : TypeId) (ht : P.underlying t = some (.map k e)) (b : Nat) (es : Array MapEntry) (c : Nat)
    (hm : a.eval m = .map (some b)) (hb : w.heap[b]? = some (.map es c))
    (hK : wpListIn F n P ops Q rest (a.put o.dst (.pointer (some ⟨w.heap.size, 0, none⟩))) (w.alloc (.mapIter (some b) c #[] c))) :
    wpListIn F n P ops Q (o :: rest) a w := by
  refine wpListIn_plain hg fun K' hK' => ?_
  unfold Oper.wpIn
  refine ⟨?_, ?_⟩
  · simp [Oper.about, hop]
  · rw [Oper.semAt_plain F _ _ (by rw [hop]; intro c hc'; cases hc')]
    simp [execOp, hop, hm, run_range_map w t k e b es c ht hb, Result.andThen]
    exact hK' _ _ hK
/-- The step: nothing is left, or one entry that is left comes. -/
theorem wpListIn_nextM (hg : o.guard = none) (it : Operand) (hop : o.op = Op.next it false) (r b c c0 : Nat) (seen : Array Nat) (es : Array MapEntry)
    (hit : a.eval it = .pointer (some ⟨r, 0, none⟩)) (hr : w.heap[r]? = some (.mapIter (some b) c seen c0)) (hb : w.heap[b]? = some (.map es c)) (hold : ∀ x ∈ es.toList, x.born < c) (hsc : c ≤ c0)
    (hDone : Hid ((leftOf es seen).size = 0) → wpListIn F n P ops Q rest (a.put o.dst (.tuple #[.bool false])) w)
    (hMore : ∀ (e : MapEntry) (w1 : World), Hid (e ∈ (leftOf es seen).toList ∧ (w1 = w ∨ w1 = w.drew)) → wpListIn F n P ops Q rest (a.put o.dst (.tuple #[.bool true, e.key, e.val])) (setBlock w1 r (.mapIter (some b) c (seen.push e.born) c))) :
    wpListIn F n P ops Q (o :: rest) a w := by
  refine wpListIn_plain hg fun K' hK' => ?_
  unfold Oper.wpIn
  refine ⟨by simp [Oper.about, hop], ?_⟩
  rw [Oper.semAt_plain F _ _ (by rw [hop]; intro c hc'; cases hc')]
  rcases run_next_at (P := P) w o.type r b c c0 seen es c hr hb hold hsc with ⟨h0, hrun⟩ | ⟨e, he, w1, hal, hrun⟩
  · simp [execOp, hop, hit, hrun, Result.andThen]
    exact hK' _ _ (hDone (hidz h0))
  · simp [execOp, hop, hit, hrun, Result.andThen]
    exact hK' _ _ (hMore e w1 (hidz ⟨he, hal⟩))
end

/-- A range over a profile under way: which entries have come, by their numbers. -/
structure Way (w : World) (b r : Nat) (es : Array MapEntry) (c : Nat) (is : List Nat) : Prop where
  map : w.heap[b]? = some (.map es c)
  iter : ∃ seen c0, w.heap[r]? = some (.mapIter (some b) c seen c0) ∧ c ≤ c0 ∧ seen.toList = is.map (fun i => (es[i]?.map (·.born)).getD 0)
  nodup : is.Nodup
  lt : ∀ i ∈ is, i < es.size
theorem setBlock_grown (w : World) (r : Nat) (o : Obj) : w.grownBy (setBlock w r o) (some r) :=
  ⟨rfl, rfl, rfl, by simp [setBlock], fun k _ hk => by simp [setBlock, show r ≠ k from fun e => hk (by rw [e])]⟩
/-- All have come. -/
theorem Way.all {w : World} {b r : Nat} {es : Array MapEntry} {c : Nat} {is : List Nat} (h : Way w b r es c is) (hst : StampOk es.toList c) {seen : Array Nat} (hs : seen.toList = is.map (fun i => (es[i]?.map (·.born)).getD 0)) (h0 : (leftOf es seen).size = 0) : is.Perm (List.range es.size) := by
  refine (List.perm_ext_iff_of_nodup h.nodup List.nodup_range).2 fun i => ?_
  rw [List.mem_range]
  refine ⟨h.lt i, fun hi => ?_⟩
  have h1 := all_seen es seen h0 es[i] (by simp)
  rw [Array.contains_iff_mem, ← Array.mem_toList_iff, hs] at h1
  obtain ⟨j, hj, hjb⟩ := List.mem_map.1 h1
  have hjl := h.lt j hj
  rw [Array.getElem?_eq_getElem hjl] at hjb
  simp at hjb
  rcases Nat.lt_trichotomy i j with e | e | e
  · have := List.pairwise_iff_getElem.1 hst.2 i j (by simpa using hi) (by simpa using hjl) e
    simp at this
    exact absurd hjb.symm this
  · rw [e]; exact hj
  · have := List.pairwise_iff_getElem.1 hst.2 j i (by simpa using hjl) (by simpa using hi) e
    simp at this
    exact absurd hjb this
/-- One more has come. -/
theorem left_index {es : Array MapEntry} {seen : Array Nat} {is : List Nat} (hs : seen.toList = is.map (fun i => (es[i]?.map (·.born)).getD 0)) {e : MapEntry} (he : e ∈ (leftOf es seen).toList) : ∃ i, ∃ hi : i < es.size, es[i] = e ∧ i ∉ is := by
  obtain ⟨hm, hc⟩ := mem_left he
  obtain ⟨i, hi, hie⟩ := List.getElem_of_mem hm
  have hi' : i < es.size := by simpa using hi
  refine ⟨i, hi', by simpa using hie, fun h => ?_⟩
  have : seen.contains e.born = true := by
    rw [Array.contains_iff_mem, ← Array.mem_toList_iff, hs]
    refine List.mem_map.2 ⟨i, h, ?_⟩
    rw [Array.getElem?_eq_getElem hi']
    simp at hie ⊢
    rw [hie]
  rw [this] at hc
  cases hc
theorem ents_at {es : List MapEntry} {ws : List Wt} (h : Ents es ws) : es.length = ws.length ∧ ∀ i (hi : i < es.length) (hw : i < ws.length), es[i].key = keyW ws[i] ∧ es[i].val = valW ws[i] := by
  have hl : es.length = ws.length := by simpa using congrArg List.length h
  refine ⟨hl, fun i hi hw => ?_⟩
  have := congrArg (·[i]?) h
  simp [List.getElem?_eq_getElem hi, List.getElem?_eq_getElem hw] at this
  exact this
/-- The place of the entry of a number. -/
def plAt (ws : List Wt) (i : Nat) : Int × Int := ((ws[i]?).map fun W => (W.f, W.p)).getD (0, 0)
theorem plAt_all (ws : List Wt) : (List.range ws.length).map (plAt ws) = ws.map fun W => (W.f, W.p) := by
  apply List.ext_getElem
  · simp
  · intro i h1 h2
    simp [plAt] at h2 ⊢
    rw [List.getElem?_eq_getElem (by simpa using h1)]
    rfl
def encP (x : Int × Int) : Value := .agg #[.int .i64 x.1, .int .i64 x.2]
end Go.Proofs.YtmmcockkbhnopaaGreat

namespace Go.Proofs.YtmmcockkbhnopaaGreat
open Go.RowKit Go.Sort Go.ChangeMaps

theorem Way.kept {w w' : World} {b r : Nat} {es : Array MapEntry} {c : Nat} {is : List Nat} (h : Way w b r es c is) (hb : w'.heap[b]? = w.heap[b]?) (hr : w'.heap[r]? = w.heap[r]?) : Way w' b r es c is := by
  obtain ⟨seen, c0, h1, h2, h3⟩ := h.iter
  exact ⟨hb.trans h.map, ⟨seen, c0, hr.trans h1, h2, h3⟩, h.nodup, h.lt⟩
theorem Way.alloc {w : World} {b r : Nat} {es : Array MapEntry} {c : Nat} {is : List Nat} (h : Way w b r es c is) (o : Obj) : Way (w.alloc o) b r es c is := by
  obtain ⟨seen, c0, h1, h2, h3⟩ := h.iter
  exact h.kept (Below.heap_alloc _ _ _ (lt_sizez h.map)) (Below.heap_alloc _ _ _ (lt_sizez h1))
theorem Way.of_walks {w w' : World} {b r : Nat} {es : Array MapEntry} {c : Nat} {is : List Nat} (h : Way w b r es c is) (hk : KeepsWalks w w') : Way w' b r es c is := by
  obtain ⟨seen, c0, h1, h2, h3⟩ := h.iter
  exact h.kept ((hk.same b _ h.map rfl).trans h.map.symm) ((hk.same r _ h1 rfl).trans h1.symm)
theorem rangeLeft_eq {w : World} {b r : Nat} {es : Array MapEntry} {c c0 : Nat} {seen : Array Nat} (hb : w.heap[b]? = some (.map es c)) (hr : w.heap[r]? = some (.mapIter (some b) c seen c0)) : w.rangeLeft b r = (leftOf es seen).size := by
  simp only [World.rangeLeft, hb, hr]

set_option maxRecDepth 100000 in
set_option maxHeartbeats 2000000 in
theorem keys1_in (n : Nat) (hn : 1 ≤ n) (l Bm b : Nat) (ws : List Wt) (J Jx : List (Int × Int) → World → Prop)
    (hY : ∀ pre x W, J pre W → pre.length < ws.length → YieldAt Fence.wide (n - 1) Tryz.prog l #[encP x] W fun e W' => (e = .returned (.bool true) ∧ J (pre ++ [x]) W' ∧ KeepsWalks W W') ∨ (e = .returned (.bool false) ∧ Jx (pre ++ [x]) W'))
    (W : World) (hJ : AbidesFrom W.heap.size J) (hm : W.cell? ⟨Bm, 0, none⟩ = some (.map (some b))) (hown : MapW W b ws) (h0 : J [] W) :
    CallsIn Fence.wide n Tryz.prog 113 #[.func (.yield l) #[] #[], .pointer (some ⟨Bm, 0, none⟩)] W fun e W' => (∃ v, e = .returned v) ∧ ((∃ ss : List (Int × Int), ss.Perm (ws.map fun W => (W.f, W.p)) ∧ J ss W') ∨ (∃ pre : List (Int × Int), True ∧ Jx pre W')) := by
  obtain ⟨es, c, hb, hents, hst⟩ := hown
  obtain ⟨hlen, hat⟩ := ents_at hents
  have hsz : es.size = ws.length := by simpa using hlen
  have hbl := lt_sizez hb
  have hnd : (es.toList.map (·.born)).Nodup := by
    unfold List.Nodup
    rw [List.pairwise_map]
    exact hst.2
  obtain ⟨W0, hW0⟩ : ∃ W0, W0 = W.alloc (.mapIter (some b) c #[] c) := ⟨_, rfl⟩
  have hb0 : W0.heap[b]? = some (.map es c) := by rw [hW0, Below.heap_alloc _ _ _ hbl]; exact hb
  have hr0 : W0.heap[W.heap.size]? = some (.mapIter (some b) c #[] c) := by rw [hW0]; exact World.alloc_heap_new W _
  have HWAY : Hid (Way W0 b W.heap.size es c []) := ⟨hb0, ⟨#[], c, hr0, Nat.le_refl _, rfl⟩, List.nodup_nil, fun i hi => by cases hi⟩
  have HL0 : Hid (([] : List Nat).length + W0.rangeLeft b W.heap.size ≤ es.size) := by
    show _ ≤ _
    rw [rangeLeft_eq hb0 hr0]
    simpa [leftOf] using Array.size_filter_le (p := fun e => !(#[] : Array Nat).contains e.born) (xs := es)
  have HJ0 : Hid (J (([] : List Nat).map (plAt ws)) W0) := by
    rw [hW0]
    exact hJ [] W _ none h0 (World.grownBy_alloc W _ none) (fun r e => by cases e)
  refine callsIn_of_wp Tryz.func113 rfl trivial ?_ rfl
  simp only [Tryz.ntmps113, List.size_toArray, List.length_cons, List.length_nil, Nat.reduceAdd, Nat.reduceSub, Array.replicate_succ, Array.replicate_zero, List.push_toArray, List.append_toArray, List.nil_append, List.cons_append]
  gi_wp2_with (first
    | (gi_at_range; refine wpListIn_rangeM rfl _ 75 rfl 134 131 Tryz.underlying75 b es c rfl hb ?_)
    | gi_in)
  go_frame
  rw [← hW0]
  clear hW0 hb0 hr0
  gi_loopw [3] (fun _ wr => ∃ is : List Nat, Way wr b W.heap.size es c is ∧ is.length + wr.rangeLeft b W.heap.size ≤ es.size ∧ J (is.map (plAt ws)) wr) (fun _ wr => wr.rangeLeft b W.heap.size)
  case atStart => exact ⟨[], HWAY.out, HL0.out, HJ0.out⟩
  case round =>
    obtain ⟨is, hW, hL, hJs⟩ := hrel
    clear HWAY HL0 HJ0
    obtain ⟨seen, c0, hr, hsc, hseen⟩ := hW.iter
    rw [rangeLeft_eq hW.map hr] at hL
    have hmb := hW.map
    gi_wp2_with (first
      | (gi_at_next; refine wpListIn_nextM rfl _ rfl W.heap.size b c c0 seen es rfl hr hW.map hst.1 hsc ?_ ?_)
      | gi_in)
    · intro hl0
      have hl0 : (leftOf es seen).size = 0 := by rw [hl0.out]; rfl
      have hp : (is.map (plAt ws)).Perm (ws.map fun W => (W.f, W.p)) := by
        rw [← plAt_all, ← hsz]
        exact (hW.all hst hseen hl0).map _
      gi_wp2
      go_end0
      exact ⟨⟨_, rfl⟩, .inl ⟨_, hp, hJs⟩⟩
    · intro e w1 heal
      obtain ⟨he0, hal⟩ := heal.out
      have he : e ∈ (leftOf es seen).toList := Array.mem_toList_iff.2 he0
      clear heal he0
      obtain ⟨i, hi, hie, hni⟩ := left_index hseen he
      have hiw : i < ws.length := by omega
      have hem := (mem_left he).1
      have hkey : e.key = .agg #[.int .i64 ws[i].f, .int .i64 ws[i].p] := by
        have := (hat i (by simpa using hi) hiw).1
        simp at this
        rw [← hie, this]
        rfl
      have hpl : plAt ws i = (ws[i].f, ws[i].p) := by unfold plAt; rw [List.getElem?_eq_getElem hiw]; rfl
      have hne : b ≠ W.heap.size := by omega
      have hb1 : w1.heap[b]? = some (.map es c) := by rcases hal with rfl | rfl <;> exact hW.map
      have hr1 : w1.heap[W.heap.size]? = some (.mapIter (some b) c seen c0) := by rcases hal with rfl | rfl <;> exact hr
      obtain ⟨w2, hw2⟩ : ∃ w2, w2 = setBlock w1 W.heap.size (.mapIter (some b) c (seen.push e.born) c) := ⟨_, rfl⟩
      have hb2 : w2.heap[b]? = some (.map es c) := by rw [hw2]; exact ((setBlock_grown w1 _ _).block b (lt_sizez hb1) (fun q => hne (Option.some.inj q))).trans hb1
      have hr2 : w2.heap[W.heap.size]? = some (.mapIter (some b) c (seen.push e.born) c) := by rw [hw2]; simp [setBlock, lt_sizez hr1]
      have hW2 : Way w2 b W.heap.size es c (is ++ [i]) := by
        refine ⟨hb2, ⟨_, c, hr2, Nat.le_refl _, ?_⟩, ?_, ?_⟩
        · rw [Array.toList_push, List.map_append, hseen]
          simp [Array.getElem?_eq_getElem hi, hie]
        · rw [List.nodup_append]
          exact ⟨hW.nodup, by simp, fun x hx y hy e => hni (by rw [← List.mem_singleton.1 hy, ← e]; exact hx)⟩
        · intro j hj
          rcases List.mem_append.1 hj with hj | hj
          · exact hW.lt j hj
          · rw [List.mem_singleton.1 hj]; exact hi
      have hgr : wr.grownBy w2 (some W.heap.size) := by
        rw [hw2]
        rcases hal with rfl | rfl
        · exact setBlock_grown _ _ _
        · have hd : wr.grownBy wr.drew (some W.heap.size) := ⟨rfl, rfl, rfl, Nat.le_refl _, fun _ _ _ => rfl⟩
          have hs := setBlock_grown wr.drew W.heap.size (.mapIter (some b) c (seen.push e.born) c)
          exact ⟨hs.os.trans hd.os, hs.tape.trans hd.tape, hs.output.trans hd.output, Nat.le_trans hd.size hs.size, fun k hk hne => (hs.block k hk hne).trans (hd.block k hk hne)⟩
      have hJ2 : J (is.map (plAt ws)) w2 := hJ _ wr w2 _ hJs hgr (fun r q => by cases q; exact ⟨Nat.le_refl _, _, hr, rfl⟩)
      have hen := run_entry_at (P := Tryz.prog) w2 W.heap.size b c seen es c e hr2 hb2 hem hnd
      have hJ3 : J (is.map (plAt ws)) (w2.alloc (.cells #[.int .i64 ws[i].f, .int .i64 ws[i].p] 134)) := hJ _ w2 _ none hJ2 (World.grownBy_alloc w2 _ none) (fun r q => by cases q)
      have hsh := left_shrinks es seen e he
      obtain ⟨fn, tmps, assign, body, hy, hR⟩ := hY (is.map (plAt ws)) (ws[i].f, ws[i].p) _ hJ3 (by simp; omega)
      unfold encP at hy
      have HW3 := hidz (hW2.alloc (.cells #[.int .i64 ws[i].f, .int .i64 ws[i].p] 134))
      have HL3 : Hid ((is ++ [i]).length + (leftOf es (seen.push e.born)).size ≤ es.size) := by show _ ≤ _; simp; omega
      have HM := hidz hsh
      have HR2 := hidz hr2
      rw [← hw2, hkey]
      rw [hkey] at hen
      clear hw2 hgr hal hb1 hr1 hJs hJ2 hb2 hr2 hW2
      gi_wp2
      refine hR.mono ?_
      rintro e' W3 (⟨rfl, hJ4, hk3⟩ | ⟨rfl, hJx⟩)
      · have HW4 := hidz (HW3.out.of_walks hk3)
        have hr4 : W3.heap[W.heap.size]? = some (.mapIter (some b) c (seen.push e.born) c) := hk3.same _ _ ((Below.heap_alloc _ _ _ (lt_sizez HR2.out)).trans HR2.out) rfl
        have HQ : Hid (W3.rangeLeft b W.heap.size = (leftOf es (seen.push e.born)).size) := rangeLeft_eq HW4.out.map hr4
        gi_wp2
        go_roundw
        case rel => exact ⟨is ++ [i], HW4.out, by rw [HQ.out]; exact HL3.out, by rw [List.map_append, List.map_singleton, hpl]; exact hJ4⟩
        case measure => rw [HQ.out, rangeLeft_eq hmb hr]; exact HM.out
      · gi_wp2
        refine bodyPost_ret (results_none rfl _ _ _) rfl ?_
        exact ⟨⟨_, rfl⟩, .inr ⟨_, trivial, hJx⟩⟩
/-- maps.Keys(p) hands back an iterator over the places. -/
theorem keys_stops (n : Nat) (hn : 1 ≤ n) (Bm b : Nat) (ws : List Wt) (w : World) (hBm : Bm < w.heap.size) (hm : w.cell? ⟨Bm, 0, none⟩ = some (.map (some b))) (hown : MapW w b ws) :
    SeqStopsK Fence.wide n Tryz.prog 113 #[.pointer (some ⟨Bm, 0, none⟩)] (fun x : Int × Int => #[encP x]) KeepsWalks (fun ss => ss.Perm (ws.map fun W => (W.f, W.p))) (fun _ => True) ws.length w := fun l J Jx W hW hJ _ hY h0 =>
  keys1_in n hn l Bm b ws J Jx hY W hJ ((hW.cell (p := ⟨Bm, 0, none⟩) hBm).trans hm) (hown.mono hW) h0
end Go.Proofs.YtmmcockkbhnopaaGreat
