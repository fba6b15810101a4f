/-
  A site at a place that is not watched yet is added: (profile).add.
-/
import Derived.Test.YtlohoolimejihaaGreatZA2
namespace Go.Proofs.YtlohoolimejihaaGreat
open Go.RowKit

theorem But.set (g : Nat) (w : World) (o : Obj) : But g w (ChangeMaps.setBlock w g o) :=
  ⟨rfl, rfl, rfl, by simp [ChangeMaps.setBlock], fun k _ hg => by simp [ChangeMaps.setBlock, Ne.symm hg]⟩
theorem set_at (g : Nat) (w : World) (o : Obj) (h : g < w.heap.size) : (ChangeMaps.setBlock w g o).heap[g]? = some o := by
  simp [ChangeMaps.setBlock, h]
theorem cell_not_map {w : World} {b b2 i : Nat} {v : Value} {es : Array MapEntry} {c : Nat} (hc : w.cell? ⟨b2, i, none⟩ = some v) (hm : w.heap[b]? = some (.map es c)) : b2 ≠ b := by
  intro e
  subst e
  simp [World.cell?, hm] at hc
theorem But.cell {g b i : Nat} {w w' : World} {v : Value} (h : But g w w') (hb : b ≠ g) (hv : w.cell? ⟨b, i, none⟩ = some v) : w'.cell? ⟨b, i, none⟩ = some v := by
  have hlt : b < w.heap.size := by
    rcases Nat.lt_or_ge b w.heap.size with q | q
    · exact q
    · simp [World.cell?, Array.getElem?_eq_none q] at hv
  have := h.block b hlt hb
  simp only [World.cell?, this] at hv ⊢
  exact hv
theorem Prf.push {w w' : World} {lo b : Nat} {op : Int → Int → Int} {ws : List Wt} {W : Wt} (h : Prf w lo b op ws) (hm : MapW w' b (ws ++ [W])) (hb : But b w w') (h0 : WAt w' W) (hlo : lo ≤ W.g) (hg : w.heap.size ≤ W.g) (hno : ∀ V ∈ ws, ¬ (V.f = W.f ∧ V.p = W.p)) (hk : W.c = decide (op W.f W.p = 23)) : Prf w' lo b op (ws ++ [W]) := by
  refine ⟨hm, h.lob, ?_, ?_, ?_, ?_⟩
  · intro V hV
    rcases List.mem_append.1 hV with hV | hV
    · exact ⟨hb.kept (h.not_map hV).symm (h.cells V hV).1, (h.cells V hV).2⟩
    · rw [List.mem_singleton.1 hV]; exact ⟨h0, hlo⟩
  · rw [List.pairwise_append]
    refine ⟨h.one, by simp, fun V hV U hU => ?_⟩
    rw [List.mem_singleton.1 hU]
    have := lt_sizez (h.cells V hV).1
    omega
  · unfold Places
    rw [List.pairwise_append]
    refine ⟨h.places, by simp, fun V hV U hU => ?_⟩
    rw [List.mem_singleton.1 hU]
    exact hno V hV
  · intro V hV
    rcases List.mem_append.1 hV with hV | hV
    · exact h.kinds V hV
    · rw [List.mem_singleton.1 hV]; exact hk
theorem joinAt_new {ws : List Wt} {W : Wt} {s : Si} (hno : ∀ V ∈ ws, ¬ (V.f = s.f ∧ V.p = s.pc)) (h1 : W.f = s.f) (h2 : W.p = s.pc) : joinAt (ws ++ [W]) s = ws ++ [joinW W s] := by
  unfold joinAt
  rw [List.map_append]
  congr 1
  · rw [List.map_congr_left (g := id) (fun V hV => by rw [if_neg (hno V hV)]; rfl), List.map_id]
  · simp [h1, h2]
theorem used_new {n : Nat} {ws : List Wt} {W : Wt} {s : Si} (h : Used n ws) (hx : W.x = 0) (ho : W.o = 0) (hs : OkS W.c s) : Used (n + 1) (ws ++ [joinW W s]) := by
  intro V hV
  rcases List.mem_append.1 hV with hV | hV
  · obtain ⟨⟨k1, k2, k3, k4⟩, k5⟩ := h V hV
    exact ⟨⟨k1, by omega, k3, by omega⟩, k5⟩
  · rw [List.mem_singleton.1 hV]
    exact join_ok ⟨by omega, by omega, by omega, by omega⟩ hs

set_option maxRecDepth 100000 in
set_option maxHeartbeats 8000000 in
theorem addNew_any (a1 a2 : Option Addr) (nt c1 c2 : Nat) (fs : List Fn) (b lo n : Nat) (ws : List Wt) (sf sp : Nat) (sn tg : Int) (w : World) (hS : SiteP fs ⟨sf, sp, sn, tg⟩) (hfn : FnsAt w 0 a2 fs) (hP : Prf w lo b (opD fs) ws) (hU : Used n ws) (hlo : lo ≤ w.heap.size) (hno : ∀ W ∈ ws, ¬ (W.f = (sf : Int) ∧ W.p = (sp : Int))) :
    Calls Tryz.prog 74 #[.map (some b), .agg #[.slice a1 nt c1, .slice a2 fs.length c2], .agg #[.int .i64 (sf : Int), .int .i64 (sp : Int), .int .i64 sn, .int .i64 tg]] w (AddPost lo b n fs ws ⟨sf, sp, sn, tg⟩ w) := by
  have hOS := site_okS hS
  obtain ⟨hf, hp, -⟩ : ∃ (hf : sf < fs.length) (hp : sp < fs[sf].code.length), True := by
    obtain ⟨-, -, hf, hp, -⟩ := hS
    simp only [Int.toNat_natCast] at hf hp
    exact ⟨hf, hp, trivial⟩
  have hop : opD fs (sf : Int) (sp : Int) = fs[sf].code[sp].1 := by unfold opD; rw [insD_hit hf hp]; rfl
  obtain ⟨b2, off2, ca, cc, rfl, -, -, -, f2, hcode⟩ := hfn sf hf
  obtain ⟨b3, off3, rfl, -, d0, -⟩ := hcode sp hp
  obtain ⟨op, hopd⟩ : ∃ op, op = fs[sf].code[sp].1 := ⟨_, rfl⟩
  rw [← hopd] at hop d0
  have HOP := hidz hop
  have HOS := hidz hOS
  have hcLen : (sp : Int) < (fs[sf].code.length : Int) := by omega
  have hfLen : (sf : Int) < (fs.length : Int) := by omega
  generalize fs[sf].code.length = cl at f2 hcLen
  obtain ⟨esm, clk, hmap, hents⟩ := hP.map
  have hb2 : b2 ≠ b := cell_not_map f2 hmap
  have hb3 : b3 ≠ b := cell_not_map d0 hmap
  have hbs : b < w.heap.size := lt_sizez hmap
  obtain ⟨wA, hwA⟩ : ∃ wA, wA = (w.alloc (.cells #[.slice a1 nt c1, .slice (some ⟨b2, off2, none⟩) fs.length c2] 40)).alloc (.cells #[.int .i64 (sf : Int), .int .i64 (sp : Int), .int .i64 sn, .int .i64 tg] 68) := ⟨_, rfl⟩
  have hbA : Below w.heap.size w wA := by rw [hwA]; exact ((Below.refl _ _).alloc (Nat.le_refl _) _).alloc (by simp) _
  have hX : wA.heap[w.heap.size + 1]? = some (.cells #[.int .i64 (sf : Int), .int .i64 (sp : Int), .int .i64 sn, .int .i64 tg] 68 (0, 0)) := by rw [hwA]; exact block_new_at _ _ _ _ (by simp)
  have hM : wA.heap[w.heap.size]? = some (.cells #[.slice a1 nt c1, .slice (some ⟨b2, off2, none⟩) fs.length c2] 40 (0, 0)) := by rw [hwA]; exact block_old (block_new _ _ _) _
  have HUS := hidz hU
  have HNO := hidz hno
  have HP := hidz hP
  have x0 := block_cell hX
  clear hU hP hno hS hcode hopd hop hOS hmap hents hfn
  go_enter Tryz.func74, Tryz.ntmps74
  go_wp2_with fail
  rw [← hwA]
  clear hwA x0
  refine (placeOf_any (sf : Int) (sp : Int) sn tg wA).mono ?_
  rintro e w1 ⟨rfl, hb1⟩
  obtain ⟨wC, hwC⟩ : ∃ wC, wC = w1.alloc (.cells #[.int .i64 (sf : Int), .int .i64 (sp : Int)] 134) := ⟨_, rfl⟩
  have hbC : Below w1.heap.size w1 wC := by rw [hwC]; exact (Below.refl _ _).alloc (Nat.le_refl _) _
  have hXC := block_kept (block_kept hX hb1) hbC
  have hMC := block_kept (block_kept hM hb1) hbC
  have hPC : wC.heap[w1.heap.size]? = some (.cells #[.int .i64 (sf : Int), .int .i64 (sp : Int)] 134 (0, 0)) := by rw [hwC]; exact block_new _ _ _
  have hBC := hbA.trans ((hb1.trans (hbC.mono hb1.size)).mono hbA.size)
  have HPC := hidz (HP.out.mono hBC)
  have hl1 := look_no (sf : Int) (sp : Int) b ws wC HPC.out.map HNO.out
  rw [hwC] at hl1
  have hsz1 : w.heap.size ≤ w1.heap.size := Nat.le_trans hbA.size hb1.size
  have HBC := hidz hBC
  have HXC := hidz hXC
  have HMC := hidz hMC
  have HPP := hidz hPC
  have HF2 := hidz (cell_later hBC f2)
  have HD0 := hidz (cell_later hBC d0)
  clear hb1 hX hM hbA hbC hXC hMC hPC hBC HP f2 d0
  go_upto_region 4 with fail
  rw [← hwC]
  clear hwC hl1
  obtain ⟨gp, hgp⟩ : ∃ gp, gp = w1.heap.size := ⟨_, rfl⟩
  have hne1 : gp ≠ b := by omega
  have hne2 : w.heap.size + 1 ≠ b := by omega
  have hne3 : w.heap.size ≠ b := by omega
  have hgpw : w.heap.size ≤ gp := by omega
  rw [← hgp] at HPP ⊢
  clear hgp hsz1
  have HS : Hid (∀ w', But b wC w' → w'.cell? ⟨gp, 0, none⟩ = some (.int .i64 (sf : Int)) ∧ w'.cell? ⟨gp, 1, none⟩ = some (.int .i64 (sp : Int)) ∧ w'.cell? ⟨w.heap.size, 1, none⟩ = some (.slice (some ⟨b2, off2, none⟩) fs.length c2) ∧ w'.cell? ⟨b2, off2 + sf * 3 + 2, none⟩ = some (.slice (some ⟨b3, off3, none⟩) cl cc) ∧ w'.cell? ⟨b3, off3 + sp * 2, none⟩ = some (.int .i64 op)) := fun w' q => ⟨by rw [block_cell (q.kept hne1 HPP.out)]; rfl, by rw [block_cell (q.kept hne1 HPP.out)]; rfl, by rw [block_cell (q.kept hne3 HMC.out)]; rfl, q.cell hb2 HF2.out, q.cell hb3 HD0.out⟩
  have HBS := hidz hbs
  have hh : (fun w' : World => w'.cell? ⟨gp, 0, none⟩ = some (.int .i64 (sf : Int)) ∧ w'.cell? ⟨gp, 1, none⟩ = some (.int .i64 (sp : Int)) ∧ w'.cell? ⟨w.heap.size, 1, none⟩ = some (.slice (some ⟨b2, off2, none⟩) fs.length c2) ∧ w'.cell? ⟨b2, off2 + sf * 3 + 2, none⟩ = some (.slice (some ⟨b3, off3, none⟩) cl cc) ∧ w'.cell? ⟨b3, off3 + sp * 2, none⟩ = some (.int .i64 op)) _ := HS.out wC.drew (But.of_below (Below.refl _ _).drew)
  refine h_begin (fun w' : World => w'.cell? ⟨gp, 0, none⟩ = some (.int .i64 (sf : Int)) ∧ w'.cell? ⟨gp, 1, none⟩ = some (.int .i64 (sp : Int)) ∧ w'.cell? ⟨w.heap.size, 1, none⟩ = some (.slice (some ⟨b2, off2, none⟩) fs.length c2) ∧ w'.cell? ⟨b2, off2 + sf * 3 + 2, none⟩ = some (.slice (some ⟨b3, off3, none⟩) cl cc) ∧ w'.cell? ⟨b3, off3 + sp * 2, none⟩ = some (.int .i64 op)) (by kernel_rfl) ?_
  refine h_take (i := 0) (oi := _) (v := ?_) rfl (by kernel_rfl) (by kernel_rfl) (by kernel_rfl) (fun _ _ _ h => h) (by kernel_rfl) ?_ hh ?_
  rotate_left
  · intro w' hSw
    obtain ⟨j0, j1, j2, j3, j4⟩ := hSw
    go_simp
    try with_reducible rfl
  simp only [Act.put, List.setIfInBounds_toArray]
  refine h_take (i := 1) (oi := _) (v := ?_) rfl (by kernel_rfl) (by kernel_rfl) (by kernel_rfl) (fun _ _ _ h => h) (by kernel_rfl) ?_ hh ?_
  rotate_left
  · intro w' hSw
    obtain ⟨j0, j1, j2, j3, j4⟩ := hSw
    go_simp
    try with_reducible rfl
  simp only [Act.put]
  refine h_take (i := 2) (oi := _) (v := ?_) rfl (by kernel_rfl) (by kernel_rfl) (by kernel_rfl) (fun _ _ _ h => h) (by kernel_rfl) ?_ hh ?_
  rotate_left
  · intro w' hSw
    obtain ⟨j0, j1, j2, j3, j4⟩ := hSw
    go_simp
    try with_reducible rfl
  simp only [Act.put]
  refine h_take (i := 3) (oi := _) (v := ?_) rfl (by kernel_rfl) (by kernel_rfl) (by kernel_rfl) (fun _ _ _ h => h) (by kernel_rfl) ?_ hh ?_
  rotate_left
  · intro w' hSw
    obtain ⟨j0, j1, j2, j3, j4⟩ := hSw
    go_simp
    try with_reducible rfl
  simp only [Act.put]
  refine h_take (i := 4) (oi := _) (v := ?_) rfl (by kernel_rfl) (by kernel_rfl) (by kernel_rfl) (fun _ _ _ h => h) (by kernel_rfl) ?_ hh ?_
  rotate_left
  · intro w' hSw
    obtain ⟨j0, j1, j2, j3, j4⟩ := hSw
    go_simp
    try with_reducible rfl
  simp only [Act.put]
  refine h_take (i := 5) (oi := _) (v := ?_) rfl (by kernel_rfl) (by kernel_rfl) (by kernel_rfl) (fun _ _ _ h => h) (by kernel_rfl) ?_ hh ?_
  rotate_left
  · intro w' hSw
    obtain ⟨j0, j1, j2, j3, j4⟩ := hSw
    go_simp
    try with_reducible rfl
  simp only [Act.put]
  refine h_take (i := 6) (oi := _) (v := ?_) rfl (by kernel_rfl) (by kernel_rfl) (by kernel_rfl) (fun _ _ _ h => h) (by kernel_rfl) ?_ hh ?_
  rotate_left
  · intro w' hSw
    obtain ⟨j0, j1, j2, j3, j4⟩ := hSw
    go_simp
    try with_reducible rfl
  simp only [Act.put]
  refine h_take (i := 7) (oi := _) (v := ?_) rfl (by kernel_rfl) (by kernel_rfl) (by kernel_rfl) (fun _ _ _ h => h) (by kernel_rfl) ?_ hh ?_
  rotate_left
  · intro w' hSw
    obtain ⟨j0, j1, j2, j3, j4⟩ := hSw
    go_simp
    try with_reducible rfl
  simp only [Act.put]
  refine h_take (i := 8) (oi := _) (v := ?_) rfl (by kernel_rfl) (by kernel_rfl) (by kernel_rfl) (fun _ _ _ h => h) (by kernel_rfl) ?_ hh ?_
  rotate_left
  · intro w' hSw
    obtain ⟨j0, j1, j2, j3, j4⟩ := hSw
    go_simp
    try with_reducible rfl
  simp only [Act.put]
  refine h_take (i := 9) (oi := _) (v := ?_) rfl (by kernel_rfl) (by kernel_rfl) (by kernel_rfl) (fun _ _ _ h => h) (by kernel_rfl) ?_ hh ?_
  rotate_left
  · intro w' hSw
    obtain ⟨j0, j1, j2, j3, j4⟩ := hSw
    go_simp
    try with_reducible rfl
  simp only [Act.put]
  refine h_take (i := 10) (oi := _) (v := ?_) rfl (by kernel_rfl) (by kernel_rfl) (by kernel_rfl) (fun _ _ _ h => h) (by kernel_rfl) ?_ hh ?_
  rotate_left
  · intro w' hSw
    obtain ⟨j0, j1, j2, j3, j4⟩ := hSw
    go_simp
    try with_reducible rfl
  simp only [Act.put]
  refine h_take (i := 11) (oi := _) (v := ?_) rfl (by kernel_rfl) (by kernel_rfl) (by kernel_rfl) (fun _ _ _ h => h) (by kernel_rfl) ?_ hh ?_
  rotate_left
  · intro w' hSw
    obtain ⟨j0, j1, j2, j3, j4⟩ := hSw
    go_simp
    try with_reducible rfl
  simp only [Act.put]
  refine h_take (i := 12) (oi := _) (v := ?_) rfl (by kernel_rfl) (by kernel_rfl) (by kernel_rfl) (fun _ _ _ h => h) (by kernel_rfl) ?_ hh ?_
  rotate_left
  · intro w' hSw
    obtain ⟨j0, j1, j2, j3, j4⟩ := hSw
    go_simp
    try with_reducible rfl
  simp only [Act.put]
  refine h_take (i := 13) (oi := _) (v := ?_) rfl (by kernel_rfl) (by kernel_rfl) (by kernel_rfl) (fun _ _ _ h => h) (by kernel_rfl) ?_ hh ?_
  rotate_left
  · intro w' hSw
    obtain ⟨j0, j1, j2, j3, j4⟩ := hSw
    go_simp
    try with_reducible rfl
  simp only [Act.put]
  refine h_one (i := 14) (o := _) (by kernel_rfl) rfl (fun K hK => ?_)
  go_simp
  go_at_call 109
  refine (newWatcher_any op wC.drew).mono ?_
  rintro e wN hN
  obtain ⟨rfl, hN1, hN2⟩ := hN
  have hbN : But b wC wN := But.of_below ((Below.refl _ _).drew.trans hN2)
  obtain ⟨W, hWd⟩ : ∃ W : Wt, W = ⟨(sf : Int), (sp : Int), wC.heap.size, decide (op = 23), 0, 0, 0⟩ := ⟨_, rfl⟩
  have hvW : valW ⟨0, 0, wC.drew.heap.size, decide (op = 23), 0, 0, 0⟩ = valW W := by rw [hWd]; rfl
  have hN0 : WAt wN W := by rw [hWd]; exact hN1
  rw [hvW]
  have hPN := HPC.out.mono ((Below.refl _ _).drew.trans hN2)
  have hnoW : ∀ V ∈ ws, ¬ (V.f = W.f ∧ V.p = W.p) := by rw [hWd]; exact HNO.out
  obtain ⟨es, ck, hr15, hen⟩ := put_new W b ws wN hPN.map hnoW
  rw [show keyW W = .agg #[.int .i64 (sf : Int), .int .i64 (sp : Int)] by rw [hWd]; rfl] at hr15
  obtain ⟨wM, hwM⟩ : ∃ wM, wM = ChangeMaps.setBlock wN b (.map es ck) := ⟨_, rfl⟩
  have hbM : But b wC wM := by rw [hwM]; exact hbN.trans (But.set _ _ _)
  have hszN : wC.heap.size ≤ wN.heap.size := hbN.size
  have hMM : MapW wM b (ws ++ [W]) := ⟨es, ck, by rw [hwM]; exact set_at b wN _ (Nat.lt_of_lt_of_le HBS.out (Nat.le_trans HBC.out.size hszN)), hen⟩
  have hWM : WAt wM W := by rw [hwM]; exact (But.set b wN _).kept (show W.g ≠ b by rw [hWd]; have := HBS.out; have := HBC.out.size; show wC.heap.size ≠ b; omega) hN0
  have HPM := hidz (HPC.out.push hMM hbM hWM (by rw [hWd]; exact Nat.le_trans hlo HBC.out.size) (by rw [hWd]; exact Nat.le_refl _) hnoW (by rw [hWd]; show decide (op = 23) = decide (opD fs (sf : Int) (sp : Int) = 23); rw [HOP.out]))
  have HWD := hidz hWd
  have HBM := hidz hbM
  rw [← hwM] at hr15
  clear hN1 hN2 hPN hnoW hen hMM hWM hWd hvW hN0 hwM hszN
  have hh : (fun w' : World => w'.cell? ⟨gp, 0, none⟩ = some (.int .i64 (sf : Int)) ∧ w'.cell? ⟨gp, 1, none⟩ = some (.int .i64 (sp : Int)) ∧ w'.cell? ⟨w.heap.size, 1, none⟩ = some (.slice (some ⟨b2, off2, none⟩) fs.length c2) ∧ w'.cell? ⟨b2, off2 + sf * 3 + 2, none⟩ = some (.slice (some ⟨b3, off3, none⟩) cl cc) ∧ w'.cell? ⟨b3, off3 + sp * 2, none⟩ = some (.int .i64 op)) _ := HS.out wN hbN
  refine hK.out _ _ hh ?_
  clear hK K
  try simp only [Act.put]
  refine h_one (i := 15) (o := _) (by kernel_rfl) rfl (fun K hK => ?_)
  go_simp
  have hh : (fun w' : World => w'.cell? ⟨gp, 0, none⟩ = some (.int .i64 (sf : Int)) ∧ w'.cell? ⟨gp, 1, none⟩ = some (.int .i64 (sp : Int)) ∧ w'.cell? ⟨w.heap.size, 1, none⟩ = some (.slice (some ⟨b2, off2, none⟩) fs.length c2) ∧ w'.cell? ⟨b2, off2 + sf * 3 + 2, none⟩ = some (.slice (some ⟨b3, off3, none⟩) cl cc) ∧ w'.cell? ⟨b3, off3 + sp * 2, none⟩ = some (.int .i64 op)) _ := HS.out wM HBM.out
  refine hK.out _ _ hh ?_
  clear hK K
  try simp only [Act.put]
  refine wpAnyH_done (by kernel_rfl) ?_ _
  clear HS
  go_upto_region 5 with fail
  have hW1 : W.f = (sf : Int) := by rw [HWD.out]
  have hW2 : W.p = (sp : Int) := by rw [HWD.out]
  have hWc : W.c = decide (op = 23) := by rw [HWD.out]
  have hWx : W.x = 0 ∧ W.o = 0 := by rw [HWD.out]; exact ⟨rfl, rfl⟩
  have hWg : W.g = wC.heap.size := by rw [HWD.out]
  have hg1 : gp ≠ W.g := by have := lt_sizez HPP.out; omega
  have hg2 : w.heap.size + 1 ≠ W.g := by have := lt_sizez HXC.out; omega
  have hmem : W ∈ ws ++ [W] := by simp
  have HCW := hidz (HPM.out.cells W hmem)
  have HPG := hidz (HBM.out.kept hne1 HPP.out)
  have HXG := hidz (HBM.out.kept hne2 HXC.out)
  have HMEM := hidz hmem
  have HWG := hidz hWg
  have HWW := hidz (And.intro hW1 (And.intro hW2 hWx))
  have HS : Hid (∀ w', But W.g wM w' → w'.cell? ⟨gp, 0, none⟩ = some (.int .i64 (sf : Int)) ∧ w'.cell? ⟨gp, 1, none⟩ = some (.int .i64 (sp : Int)) ∧ w'.cell? ⟨w.heap.size + 1, 0, none⟩ = some (.int .i64 (sf : Int)) ∧ w'.cell? ⟨w.heap.size + 1, 1, none⟩ = some (.int .i64 (sp : Int)) ∧ w'.cell? ⟨w.heap.size + 1, 2, none⟩ = some (.int .i64 sn) ∧ w'.cell? ⟨w.heap.size + 1, 3, none⟩ = some (.int .i64 tg) ∧ (Instr.lookup 75 (.map (some b)) (.agg #[.int .i64 (sf : Int), .int .i64 (sp : Int)]) false).run Tryz.prog w' = .ok (valW W) w') := fun w' q => ⟨by rw [block_cell (q.kept hg1 HPG.out)]; rfl, by rw [block_cell (q.kept hg1 HPG.out)]; rfl, by rw [block_cell (q.kept hg2 HXG.out)]; rfl, by rw [block_cell (q.kept hg2 HXG.out)]; rfl, by rw [block_cell (q.kept hg2 HXG.out)]; rfl, by rw [block_cell (q.kept hg2 HXG.out)]; rfl, (look_yes (sf : Int) (sp : Int) b ws [] W w' (by obtain ⟨es, c, hm, he⟩ := HPM.out.map; exact ⟨es, c, q.kept (HPM.out.not_map HMEM.out) hm, he⟩) HWW.out.1 HWW.out.2.1 HNO.out).2⟩
  have HOS2 : Hid (OkS W.c ⟨sf, sp, sn, tg⟩) := by show OkS _ _; rw [hWc, ← HOP.out]; exact HOS.out
  have HOK : Hid (OkW 1000 W) := ⟨by have := hWx.1; omega, by have := hWx.1; omega, by have := hWx.2; omega, by have := hWx.2; omega⟩
  have HFIN : Hid (∀ wX, WAt wX (joinW W ⟨sf, sp, sn, tg⟩) → But W.g wM wX → AddPost lo b n fs ws ⟨sf, sp, sn, tg⟩ w (.returned (.tuple #[])) wX) := by
    intro wX hj hb
    have hl1 : Below lo w wC := HBC.out.mono hlo
    have hl2 : Below lo w wM := But.below hl1 HBM.out HPC.out.lob (Nat.le_trans hlo HBC.out.size)
    have hl3 : Below lo w wX := But.below hl2 hb HCW.out.2 (Nat.le_trans hlo hl2.size)
    have hja : joinAt (ws ++ [W]) ⟨sf, sp, sn, tg⟩ = ws ++ [joinW W ⟨sf, sp, sn, tg⟩] := joinAt_new HNO.out HWW.out.1 HWW.out.2.1
    refine ⟨⟨_, rfl⟩, ws ++ [joinW W ⟨sf, sp, sn, tg⟩], ?_, used_new HUS.out HWW.out.2.2.1 HWW.out.2.2.2 HOS2.out, tab_new HNO.out HWW.out.1 HWW.out.2.1 HWW.out.2.2.1 HWW.out.2.2.2 HOS2.out, by simp, hl3, fun k hk hkb _ => (hb.block k (Nat.lt_of_lt_of_le hk (Nat.le_trans HBC.out.size HBM.out.size)) (by rw [HWG.out]; have := HBC.out.size; omega)).trans ((HBM.out.block k (Nat.lt_of_lt_of_le hk HBC.out.size) hkb).trans (HBC.out.block k hk)), fun V hV => ?_⟩
    · rw [← hja]
      exact HPM.out.joined HMEM.out HWW.out.1 HWW.out.2.1 hj hb
    · rcases List.mem_append.1 hV with hV | hV
      · exact .inl ⟨V, hV, rfl⟩
      · rw [List.mem_singleton.1 hV, (join_keep W _).2.2.1, HWG.out]; exact .inr HBC.out.size
  clear hW1 hW2 hWx hWg hmem hWc HWD HBS HF2 HD0 HMC
  cases hc : W.c
  · have hv : valW W = .iface 202 (.pointer (some ⟨W.g, 0, none⟩)) := by unfold valW; rw [hc]; rfl
    have HJ : Hid (Calls Tryz.prog 185 #[.pointer (some ⟨W.g, 0, none⟩), .agg #[.int .i64 (sf : Int), .int .i64 (sp : Int), .int .i64 sn, .int .i64 tg]] wM.drew (JoinPost W ⟨sf, sp, sn, tg⟩ wM.drew)) := joinNum_any W ⟨sf, sp, sn, tg⟩ wM.drew hc (HCW.out.1.mono (Below.refl _ _).drew) HOK.out
    rw [hv] at HS
    have m1 : ∀ (v : Value) (W : World), (Go.method 367 202 v "loop.example/g00094/impl.join").run Tryz.prog W = .ok (185, v) W := fun _ _ => by kernel_rfl
    clear hv HCW HPC HPP HXC hc
    have hh : (fun w' : World => w'.cell? ⟨gp, 0, none⟩ = some (.int .i64 (sf : Int)) ∧ w'.cell? ⟨gp, 1, none⟩ = some (.int .i64 (sp : Int)) ∧ w'.cell? ⟨w.heap.size + 1, 0, none⟩ = some (.int .i64 (sf : Int)) ∧ w'.cell? ⟨w.heap.size + 1, 1, none⟩ = some (.int .i64 (sp : Int)) ∧ w'.cell? ⟨w.heap.size + 1, 2, none⟩ = some (.int .i64 sn) ∧ w'.cell? ⟨w.heap.size + 1, 3, none⟩ = some (.int .i64 tg) ∧ (Instr.lookup 75 (.map (some b)) (.agg #[.int .i64 (sf : Int), .int .i64 (sp : Int)]) false).run Tryz.prog w' = .ok (.iface 202 (.pointer (some ⟨W.g, 0, none⟩))) w') _ := HS.out wM.drew (But.of_below (Below.refl _ _).drew)
    refine h_begin (fun w' : World => w'.cell? ⟨gp, 0, none⟩ = some (.int .i64 (sf : Int)) ∧ w'.cell? ⟨gp, 1, none⟩ = some (.int .i64 (sp : Int)) ∧ w'.cell? ⟨w.heap.size + 1, 0, none⟩ = some (.int .i64 (sf : Int)) ∧ w'.cell? ⟨w.heap.size + 1, 1, none⟩ = some (.int .i64 (sp : Int)) ∧ w'.cell? ⟨w.heap.size + 1, 2, none⟩ = some (.int .i64 sn) ∧ w'.cell? ⟨w.heap.size + 1, 3, none⟩ = some (.int .i64 tg) ∧ (Instr.lookup 75 (.map (some b)) (.agg #[.int .i64 (sf : Int), .int .i64 (sp : Int)]) false).run Tryz.prog w' = .ok (.iface 202 (.pointer (some ⟨W.g, 0, none⟩))) w') (by kernel_rfl) ?_
    refine h_take (i := 0) (oi := _) (v := ?_) rfl (by kernel_rfl) (by kernel_rfl) (by kernel_rfl) (fun _ _ _ h => h) (by kernel_rfl) ?_ hh ?_
    rotate_left
    · intro w' hSw
      obtain ⟨j0, j1, j2, j3, j4, j5, j6⟩ := hSw
      go_simp
      try with_reducible rfl
    simp only [Act.put, List.setIfInBounds_toArray]
    refine h_take (i := 1) (oi := _) (v := ?_) rfl (by kernel_rfl) (by kernel_rfl) (by kernel_rfl) (fun _ _ _ h => h) (by kernel_rfl) ?_ hh ?_
    rotate_left
    · intro w' hSw
      obtain ⟨j0, j1, j2, j3, j4, j5, j6⟩ := hSw
      go_simp
      try with_reducible rfl
    simp only [Act.put]
    refine h_take (i := 2) (oi := _) (v := ?_) rfl (by kernel_rfl) (by kernel_rfl) (by kernel_rfl) (fun _ _ _ h => h) (by kernel_rfl) ?_ hh ?_
    rotate_left
    · intro w' hSw
      obtain ⟨j0, j1, j2, j3, j4, j5, j6⟩ := hSw
      go_simp
      try with_reducible rfl
    simp only [Act.put]
    refine h_take (i := 3) (oi := _) (v := ?_) rfl (by kernel_rfl) (by kernel_rfl) (by kernel_rfl) (fun _ _ _ h => h) (by kernel_rfl) ?_ hh ?_
    rotate_left
    · intro w' hSw
      obtain ⟨j0, j1, j2, j3, j4, j5, j6⟩ := hSw
      go_simp
      try with_reducible rfl
    simp only [Act.put]
    refine h_one (i := 4) (o := _) (by kernel_rfl) rfl (fun K hK => ?_)
    go_simp
    go_at_call 185
    refine HJ.out.mono ?_
    rintro e wX ⟨⟨vr, rfl⟩, hP1, hP2⟩
    have hbX := (But.of_below (Below.refl _ _).drew : But W.g wM wM.drew).trans hP2
    have HR := hidz (And.intro hP1 hbX)
    clear hP1 hP2
    have hh : (fun w' : World => w'.cell? ⟨gp, 0, none⟩ = some (.int .i64 (sf : Int)) ∧ w'.cell? ⟨gp, 1, none⟩ = some (.int .i64 (sp : Int)) ∧ w'.cell? ⟨w.heap.size + 1, 0, none⟩ = some (.int .i64 (sf : Int)) ∧ w'.cell? ⟨w.heap.size + 1, 1, none⟩ = some (.int .i64 (sp : Int)) ∧ w'.cell? ⟨w.heap.size + 1, 2, none⟩ = some (.int .i64 sn) ∧ w'.cell? ⟨w.heap.size + 1, 3, none⟩ = some (.int .i64 tg) ∧ (Instr.lookup 75 (.map (some b)) (.agg #[.int .i64 (sf : Int), .int .i64 (sp : Int)]) false).run Tryz.prog w' = .ok (.iface 202 (.pointer (some ⟨W.g, 0, none⟩))) w') _ := HS.out wX hbX
    refine hK.out _ _ hh ?_
    clear hK K
    try simp only [Act.put]
    refine wpAnyH_done (by kernel_rfl) ?_ _
    go_end0
    exact HFIN.out _ HR.out.1 HR.out.2
  · have hv : valW W = .iface 197 (.pointer (some ⟨W.g, 0, none⟩)) := by unfold valW; rw [hc]; rfl
    have HJ : Hid (Calls Tryz.prog 181 #[.pointer (some ⟨W.g, 0, none⟩), .agg #[.int .i64 (sf : Int), .int .i64 (sp : Int), .int .i64 sn, .int .i64 tg]] wM.drew (JoinPost W ⟨sf, sp, sn, tg⟩ wM.drew)) := joinCall_any W ⟨sf, sp, sn, tg⟩ wM.drew hc (HCW.out.1.mono (Below.refl _ _).drew) HOK.out
    rw [hv] at HS
    have m1 : ∀ (v : Value) (W : World), (Go.method 367 197 v "loop.example/g00094/impl.join").run Tryz.prog W = .ok (181, v) W := fun _ _ => by kernel_rfl
    clear hv HCW HPC HPP HXC hc
    have hh : (fun w' : World => w'.cell? ⟨gp, 0, none⟩ = some (.int .i64 (sf : Int)) ∧ w'.cell? ⟨gp, 1, none⟩ = some (.int .i64 (sp : Int)) ∧ w'.cell? ⟨w.heap.size + 1, 0, none⟩ = some (.int .i64 (sf : Int)) ∧ w'.cell? ⟨w.heap.size + 1, 1, none⟩ = some (.int .i64 (sp : Int)) ∧ w'.cell? ⟨w.heap.size + 1, 2, none⟩ = some (.int .i64 sn) ∧ w'.cell? ⟨w.heap.size + 1, 3, none⟩ = some (.int .i64 tg) ∧ (Instr.lookup 75 (.map (some b)) (.agg #[.int .i64 (sf : Int), .int .i64 (sp : Int)]) false).run Tryz.prog w' = .ok (.iface 197 (.pointer (some ⟨W.g, 0, none⟩))) w') _ := HS.out wM.drew (But.of_below (Below.refl _ _).drew)
    refine h_begin (fun w' : World => w'.cell? ⟨gp, 0, none⟩ = some (.int .i64 (sf : Int)) ∧ w'.cell? ⟨gp, 1, none⟩ = some (.int .i64 (sp : Int)) ∧ w'.cell? ⟨w.heap.size + 1, 0, none⟩ = some (.int .i64 (sf : Int)) ∧ w'.cell? ⟨w.heap.size + 1, 1, none⟩ = some (.int .i64 (sp : Int)) ∧ w'.cell? ⟨w.heap.size + 1, 2, none⟩ = some (.int .i64 sn) ∧ w'.cell? ⟨w.heap.size + 1, 3, none⟩ = some (.int .i64 tg) ∧ (Instr.lookup 75 (.map (some b)) (.agg #[.int .i64 (sf : Int), .int .i64 (sp : Int)]) false).run Tryz.prog w' = .ok (.iface 197 (.pointer (some ⟨W.g, 0, none⟩))) w') (by kernel_rfl) ?_
    refine h_take (i := 0) (oi := _) (v := ?_) rfl (by kernel_rfl) (by kernel_rfl) (by kernel_rfl) (fun _ _ _ h => h) (by kernel_rfl) ?_ hh ?_
    rotate_left
    · intro w' hSw
      obtain ⟨j0, j1, j2, j3, j4, j5, j6⟩ := hSw
      go_simp
      try with_reducible rfl
    simp only [Act.put, List.setIfInBounds_toArray]
    refine h_take (i := 1) (oi := _) (v := ?_) rfl (by kernel_rfl) (by kernel_rfl) (by kernel_rfl) (fun _ _ _ h => h) (by kernel_rfl) ?_ hh ?_
    rotate_left
    · intro w' hSw
      obtain ⟨j0, j1, j2, j3, j4, j5, j6⟩ := hSw
      go_simp
      try with_reducible rfl
    simp only [Act.put]
    refine h_take (i := 2) (oi := _) (v := ?_) rfl (by kernel_rfl) (by kernel_rfl) (by kernel_rfl) (fun _ _ _ h => h) (by kernel_rfl) ?_ hh ?_
    rotate_left
    · intro w' hSw
      obtain ⟨j0, j1, j2, j3, j4, j5, j6⟩ := hSw
      go_simp
      try with_reducible rfl
    simp only [Act.put]
    refine h_take (i := 3) (oi := _) (v := ?_) rfl (by kernel_rfl) (by kernel_rfl) (by kernel_rfl) (fun _ _ _ h => h) (by kernel_rfl) ?_ hh ?_
    rotate_left
    · intro w' hSw
      obtain ⟨j0, j1, j2, j3, j4, j5, j6⟩ := hSw
      go_simp
      try with_reducible rfl
    simp only [Act.put]
    refine h_one (i := 4) (o := _) (by kernel_rfl) rfl (fun K hK => ?_)
    go_simp
    go_at_call 181
    refine HJ.out.mono ?_
    rintro e wX ⟨⟨vr, rfl⟩, hP1, hP2⟩
    have hbX := (But.of_below (Below.refl _ _).drew : But W.g wM wM.drew).trans hP2
    have HR := hidz (And.intro hP1 hbX)
    clear hP1 hP2
    have hh : (fun w' : World => w'.cell? ⟨gp, 0, none⟩ = some (.int .i64 (sf : Int)) ∧ w'.cell? ⟨gp, 1, none⟩ = some (.int .i64 (sp : Int)) ∧ w'.cell? ⟨w.heap.size + 1, 0, none⟩ = some (.int .i64 (sf : Int)) ∧ w'.cell? ⟨w.heap.size + 1, 1, none⟩ = some (.int .i64 (sp : Int)) ∧ w'.cell? ⟨w.heap.size + 1, 2, none⟩ = some (.int .i64 sn) ∧ w'.cell? ⟨w.heap.size + 1, 3, none⟩ = some (.int .i64 tg) ∧ (Instr.lookup 75 (.map (some b)) (.agg #[.int .i64 (sf : Int), .int .i64 (sp : Int)]) false).run Tryz.prog w' = .ok (.iface 197 (.pointer (some ⟨W.g, 0, none⟩))) w') _ := HS.out wX hbX
    refine hK.out _ _ hh ?_
    clear hK K
    try simp only [Act.put]
    refine wpAnyH_done (by kernel_rfl) ?_ _
    go_end0
    exact HFIN.out _ HR.out.1 HR.out.2
end Go.Proofs.YtlohoolimejihaaGreat
