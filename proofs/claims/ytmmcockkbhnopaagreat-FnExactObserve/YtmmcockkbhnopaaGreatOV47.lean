/-
  A watcher is made; what it tells.
  A profile in memory; a site is added to it: (profile).add.
-/
import Derived.Test.YtmmcockkbhnopaaGreatOV46
namespace Go.Proofs.YtmmcockkbhnopaaGreat
open Go.RowKit

def NewPost (c : Bool) (w : World) : Ending → World → Prop := fun e w' => e = .returned (valW ⟨0, 0, w.heap.size, c, 0, 0, 0⟩) ∧ WAt w' ⟨0, 0, w.heap.size, c, 0, 0, 0⟩ ∧ Below w.heap.size w w'
set_option maxHeartbeats 400000 in
theorem newWatcher_any (op : Int) (w : World) :
    Calls Tryz.prog 109 #[.int .i64 op] w (NewPost (decide (op = 23)) w) := by
  by_cases h : op = 23
  · subst h
    have HR : Hid (NewPost (decide ((23 : Int) = 23)) w (.returned (.iface 197 (.pointer (some ⟨w.heap.size, 0, none⟩)))) (w.alloc (.cells #[.int .i64 0, .int .i64 0, .int .i64 0] 201))) :=
      ⟨rfl, block_new _ _ _, (Below.refl _ _).alloc (Nat.le_refl _) _⟩
    obtain ⟨c, hc⟩ : ∃ c, c = decide ((23 : Int) = 23) := ⟨_, rfl⟩
    rw [← hc] at HR ⊢
    clear hc
    go_enter Tryz.func109, Tryz.ntmps109
    go_wp2
    go_ret
    exact HR.out
  · have HR : Hid (NewPost (decide (op = 23)) w (.returned (.iface 202 (.pointer (some ⟨w.heap.size, 0, none⟩)))) (w.alloc (.cells #[.int .i64 0, .int .i64 0] 204))) := by
      rw [decide_eq_false h]
      exact ⟨rfl, block_new _ _ _, (Below.refl _ _).alloc (Nat.le_refl _) _⟩
    obtain ⟨c, hc⟩ : ∃ c, c = decide (op = 23) := ⟨_, rfl⟩
    rw [← hc] at HR ⊢
    clear hc
    go_enter Tryz.func109, Tryz.ntmps109
    go_wp2
    go_ret
    exact HR.out

def ToldPost (W : Wt) (w : World) : Ending → World → Prop := fun e w' => e = .returned (.tuple #[.int .i64 (told W).1, .int .i64 (told W).2]) ∧ Below w.heap.size w w'
set_option maxHeartbeats 1000000 in
theorem toldNum_any (W : Wt) (w : World) (hc : W.c = false) (h : WAt w W) :
    Calls Tryz.prog 186 #[.pointer (some ⟨W.g, 0, none⟩)] w (ToldPost W w) := by
  have hb : w.heap[W.g]? = some (.cells #[.int .i64 W.x, .int .i64 W.o] 204 (0, 0)) := by unfold WAt cellsW tyW at h; rw [hc] at h; exact h
  have HT : Hid (told W = if W.o = 0 then (1, 0) else if W.x = 0 then (2, 0) else (3, 0)) := by show _ = _; unfold told; rw [if_neg (by rw [hc]; simp)]
  have k0 : w.cell? ⟨W.g, 0, none⟩ = some (.int .i64 W.x) := by rw [block_cell hb]; rfl
  have HO : Hid (Calls Tryz.prog 184 #[.pointer (some ⟨W.g, 0, none⟩)] w fun e w' => e = .returned (.bool (decide (W.o = 0))) ∧ w' = w) := only_any W.g W.o w (by rw [block_cell hb]; rfl)
  clear hb h hc
  go_enter Tryz.func186, Tryz.ntmps186
  go_wp2_with fail
  refine HO.out.mono ?_
  rintro e w1 ⟨rfl, rfl⟩
  by_cases ho : W.o = 0
  · have HQ := hidz (HT.out.trans (by rw [if_pos ho]))
    rw [decide_eq_true ho]
    clear HT ho
    go_wp2
    go_ret2
    unfold ToldPost; rw [HQ.out]; exact ⟨rfl, Below.refl _ _⟩
  · by_cases hx : W.x = 0
    · have HQ := hidz (HT.out.trans (by rw [if_neg ho, if_pos hx]))
      rw [decide_eq_false ho]
      rw [hx] at k0
      clear HT ho hx
      go_wp2
      go_ret2
      unfold ToldPost
      rw [HQ.out]
      exact ⟨rfl, Below.refl _ _⟩
    · have HQ := hidz (HT.out.trans (by rw [if_neg ho, if_neg hx]))
      rw [decide_eq_false ho]
      clear HT ho
      go_wp2
      go_ret2
      unfold ToldPost
      rw [HQ.out]
      exact ⟨rfl, Below.refl _ _⟩
set_option maxHeartbeats 1000000 in
theorem toldCall_any (W : Wt) (w : World) (hc : W.c = true) (h : WAt w W) :
    Calls Tryz.prog 182 #[.pointer (some ⟨W.g, 0, none⟩)] w (ToldPost W w) := by
  have hb : w.heap[W.g]? = some (.cells #[.int .i64 W.x, .int .i64 W.o, .int .i64 W.t] 201 (0, 0)) := by unfold WAt cellsW tyW at h; rw [hc] at h; exact h
  have HT : Hid (told W = if W.o = 0 then (1, W.t) else (2, 0)) := by show _ = _; unfold told; rw [if_pos hc]
  have k2 : w.cell? ⟨W.g, 2, none⟩ = some (.int .i64 W.t) := by rw [block_cell hb]; rfl
  have HO : Hid (Calls Tryz.prog 184 #[.pointer (some ⟨W.g, 0, none⟩)] w fun e w' => e = .returned (.bool (decide (W.o = 0))) ∧ w' = w) := only_any W.g W.o w (by rw [block_cell hb]; rfl)
  clear hb h hc
  go_enter Tryz.func182, Tryz.ntmps182
  go_wp2_with fail
  refine HO.out.mono ?_
  rintro e w1 ⟨rfl, rfl⟩
  by_cases ho : W.o = 0
  · have HQ := hidz (HT.out.trans (by rw [if_pos ho]))
    rw [decide_eq_true ho]
    clear HT ho
    go_upto_region 2 with fail
    go_quiet (fail)
    go_wp2
    go_ret2
    unfold ToldPost
    rw [HQ.out]
    exact ⟨rfl, below_draws (Below.refl _ _) _⟩
  · have HQ := hidz (HT.out.trans (by rw [if_neg ho]))
    rw [decide_eq_false ho]
    clear HT ho
    go_wp2
    go_ret2
    unfold ToldPost
    rw [HQ.out]
    exact ⟨rfl, Below.refl _ _⟩
end Go.Proofs.YtmmcockkbhnopaaGreat

namespace Go.Proofs.YtmmcockkbhnopaaGreat
open Go.RowKit

/-- A profile in memory: a map by places, each watcher in a block of its own. -/
structure Prf (w : World) (lo b : Nat) (op : Int → Int → Int) (ws : List Wt) : Prop where
  map : MapW w b ws
  lob : lo ≤ b
  cells : ∀ W ∈ ws, WAt w W ∧ lo ≤ W.g
  one : ws.Pairwise fun V W => V.g ≠ W.g
  places : Places ws
  kinds : Kinds op ws
theorem MapW.mono {w w' : World} {b : Nat} {ws : List Wt} (h : MapW w b ws) (hb : Below w.heap.size w w') : MapW w' b ws := by
  obtain ⟨es, c, h1, h2⟩ := h
  exact ⟨es, c, block_kept h1 hb, h2⟩
theorem WAt.mono {w w' : World} {W : Wt} (h : WAt w W) (hb : Below w.heap.size w w') : WAt w' W := block_kept h hb
theorem Prf.mono {w w' : World} {lo b : Nat} {op : Int → Int → Int} {ws : List Wt} (h : Prf w lo b op ws) (hb : Below w.heap.size w w') : Prf w' lo b op ws :=
  ⟨h.map.mono hb, h.lob, fun W hW => ⟨(h.cells W hW).1.mono hb, (h.cells W hW).2⟩, h.one, h.places, h.kinds⟩
theorem Prf.not_map {w : World} {lo b : Nat} {op : Int → Int → Int} {ws : List Wt} (h : Prf w lo b op ws) {W : Wt} (hW : W ∈ ws) : b ≠ W.g := by
  intro e
  obtain ⟨es, c, h1, -⟩ := h.map
  have h2 := (h.cells W hW).1
  unfold WAt at h2
  rw [← e, h1] at h2
  cases h2
theorem pair_one {α : Type} {R : α → α → Prop} (hsym : ∀ x y, R x y → R y x) {l : List α} (h : l.Pairwise R) {x y : α} (hx : x ∈ l) (hy : y ∈ l) : x = y ∨ R x y := by
  induction l with
  | nil => cases hx
  | cons a l ih =>
    rw [List.pairwise_cons] at h
    rcases List.mem_cons.1 hx with e1 | h1
    · rcases List.mem_cons.1 hy with e2 | h2
      · exact .inl (e1.trans e2.symm)
      · exact .inr (e1 ▸ h.1 y h2)
    · rcases List.mem_cons.1 hy with e2 | h2
      · exact .inr (hsym _ _ (e2 ▸ h.1 x h1))
      · exact ih h.2 h1 h2
theorem Prf.same {w : World} {lo b : Nat} {op : Int → Int → Int} {ws : List Wt} (h : Prf w lo b op ws) {V W : Wt} (hV : V ∈ ws) (hW : W ∈ ws) (he : V.f = W.f ∧ V.p = W.p) : V = W := by
  rcases pair_one (fun x y q e => q ⟨e.1.symm, e.2.symm⟩) h.places hV hW with e | e
  · exact e
  · exact absurd he e
theorem Prf.apart {w : World} {lo b : Nat} {op : Int → Int → Int} {ws : List Wt} (h : Prf w lo b op ws) {V W : Wt} (hV : V ∈ ws) (hW : W ∈ ws) (he : ¬ (V.f = W.f ∧ V.p = W.p)) : V.g ≠ W.g := by
  rcases pair_one (fun x y q e => q e.symm) h.one hV hW with e | e
  · exact absurd (by rw [e]; exact ⟨rfl, rfl⟩) he
  · exact e
theorem Prf.joined {w w' : World} {lo b : Nat} {op : Int → Int → Int} {ws : List Wt} {W : Wt} {s : Si} (h : Prf w lo b op ws) (hW : W ∈ ws) (h1 : W.f = s.f) (h2 : W.p = s.pc) (hj : WAt w' (joinW W s)) (hb : But W.g w w') : Prf w' lo b op (joinAt ws s) := by
  have hkeep : ∀ U : Wt, keyW (if U.f = s.f ∧ U.p = s.pc then joinW U s else U) = keyW U ∧ valW (if U.f = s.f ∧ U.p = s.pc then joinW U s else U) = valW U ∧ (if U.f = s.f ∧ U.p = s.pc then joinW U s else U).g = U.g ∧ (if U.f = s.f ∧ U.p = s.pc then joinW U s else U).f = U.f ∧ (if U.f = s.f ∧ U.p = s.pc then joinW U s else U).p = U.p ∧ (if U.f = s.f ∧ U.p = s.pc then joinW U s else U).c = U.c := by
    intro U
    have hk := join_keep U s
    split
    · unfold keyW valW
      rw [hk.1, hk.2.1, hk.2.2.1, hk.2.2.2]
      exact ⟨rfl, rfl, rfl, rfl, rfl, rfl⟩
    · exact ⟨rfl, rfl, rfl, rfl, rfl, rfl⟩
  refine ⟨?_, h.lob, ?_, ?_, ?_, ?_⟩
  · obtain ⟨es, c, hm, he⟩ := h.map
    refine ⟨es, c, hb.kept (h.not_map hW) hm, ?_, he.2⟩
    have he := he.1
    unfold Ents joinAt at *
    rw [he, List.map_map]
    exact List.map_congr_left (fun U _ => by simp only [Function.comp]; rw [(hkeep U).1, (hkeep U).2.1])
  · intro V hV
    obtain ⟨U, hU, rfl⟩ := List.mem_map.1 hV
    by_cases hp : U.f = s.f ∧ U.p = s.pc
    · have e := h.same hU hW ⟨hp.1.trans h1.symm, hp.2.trans h2.symm⟩
      subst e
      simp only [if_pos hp]
      exact ⟨hj, by rw [(join_keep U s).2.2.1]; exact (h.cells U hU).2⟩
    · simp only [if_neg hp]
      exact ⟨hb.kept (h.apart hU hW (fun q => hp ⟨q.1.trans h1, q.2.trans h2⟩)) (h.cells U hU).1, (h.cells U hU).2⟩
  · unfold joinAt
    rw [List.pairwise_map]
    exact h.one.imp (fun {U V} q => by rw [(hkeep U).2.2.1, (hkeep V).2.2.1]; exact q)
  · unfold joinAt Places
    rw [List.pairwise_map]
    exact h.places.imp (fun {U V} q => by rw [(hkeep U).2.2.2.1, (hkeep V).2.2.2.1, (hkeep U).2.2.2.2.1, (hkeep V).2.2.2.2.1]; exact q)
  · intro V hV
    obtain ⟨U, hU, rfl⟩ := List.mem_map.1 hV
    rw [(hkeep U).2.2.2.2.2, (hkeep U).2.2.2.1, (hkeep U).2.2.2.2.1]
    exact h.kinds U hU
theorem Used.joined {n : Nat} {ws : List Wt} {s : Si} (h : Used n ws) (hs : ∀ W ∈ ws, W.f = s.f ∧ W.p = s.pc → OkS W.c s) : Used (n + 1) (joinAt ws s) := by
  intro V hV
  obtain ⟨U, hU, rfl⟩ := List.mem_map.1 hV
  split
  · rename_i hp
    exact join_ok (h U hU).1 (hs U hU hp)
  · obtain ⟨⟨k1, k2, k3, k4⟩, k5⟩ := h U hU
    exact ⟨⟨k1, by omega, k3, by omega⟩, k5⟩
theorem site_okS {fs : List Fn} {s : Si} (h : SiteP fs s) : OkS (decide (opD fs s.f s.pc = 23)) s := by
  obtain ⟨h0, h1, hf, hp, ho⟩ := h
  have e : opD fs s.f s.pc = fs[s.f.toNat].code[s.pc.toNat].1 := by
    unfold opD
    have := insD_hit hf hp
    rw [show ((s.f.toNat : Nat) : Int) = s.f by omega, show ((s.pc.toNat : Nat) : Int) = s.pc by omega] at this
    rw [this]
    rfl
  rw [e]
  rcases ho with ⟨h2, h3⟩ | ⟨h2, h3, h4, h5, h6⟩
  · rw [h2]
    refine ⟨fun _ => ?_, fun q => by simp at q⟩
    rcases h3 with h3 | h3
    · exact .inl h3.1
    · exact .inr h3
  · have hne : ¬ fs[s.f.toNat].code[s.pc.toNat].1 = 23 := by omega
    rw [decide_eq_false hne]
    exact ⟨fun q => (by cases q), fun _ => ⟨⟨h4, h5⟩, h6⟩⟩
def AddPost (lo b n : Nat) (fs : List Fn) (ws : List Wt) (s : Si) (w : World) : Ending → World → Prop := fun e w' => (∃ v, e = .returned v) ∧ ∃ ws', Prf w' lo b (opD fs) ws' ∧ Used (n + 1) ws' ∧ tabW ws' = updC (opD fs) (tabW ws) s ∧ ws'.length ≤ ws.length + 1 ∧ Below lo w w' ∧ (∀ k, k < w.heap.size → k ≠ b → (∀ W ∈ ws, k ≠ W.g) → w'.heap[k]? = w.heap[k]?) ∧ (∀ W ∈ ws', (∃ V ∈ ws, V.g = W.g) ∨ w.heap.size ≤ W.g)

set_option maxRecDepth 100000 in
set_option maxHeartbeats 8000000 in
theorem addKnown_any (a1 a2 : Option Addr) (nt c1 c2 : Nat) (fs : List Fn) (b lo n : Nat) (ws : List Wt) (s : Si) (w : World) (hS : SiteP fs s) (hP : Prf w lo b (opD fs) ws) (hU : Used n ws) (hn : n ≤ 1000) (hlo : lo ≤ w.heap.size) (hin : ∃ W ∈ ws, W.f = s.f ∧ W.p = s.pc) :
    Calls Tryz.prog 74 #[.map (some b), .agg #[.slice a1 nt c1, .slice a2 fs.length c2], .agg #[.int .i64 s.f, .int .i64 s.pc, .int .i64 s.seen, .int .i64 s.target]] w (AddPost lo b n fs ws s w) := by
  obtain ⟨wA, hwA⟩ : ∃ wA, wA = (w.alloc (.cells #[.slice a1 nt c1, .slice a2 fs.length c2] 40)).alloc (.cells #[.int .i64 s.f, .int .i64 s.pc, .int .i64 s.seen, .int .i64 s.target] 68) := ⟨_, rfl⟩
  have hbA : Below w.heap.size w wA := by rw [hwA]; exact ((Below.refl _ _).alloc (Nat.le_refl _) _).alloc (by simp) _
  have hX : wA.heap[w.heap.size + 1]? = some (.cells #[.int .i64 s.f, .int .i64 s.pc, .int .i64 s.seen, .int .i64 s.target] 68 (0, 0)) := by rw [hwA]; exact block_new_at _ _ _ _ (by simp)
  have HIN := hidz hin
  have HUS := hidz hU
  have HSI := hidz hS
  have HOS := hidz (site_okS hS)
  obtain ⟨l1, W, l2, hws, h1, h2, hno⟩ := split_place hin
  have hW : W ∈ ws := by rw [hws]; simp
  have HW := hidz hW
  have H1 := hidz h1
  have H2 := hidz h2
  have HNO := hidz hno
  have HWS := hidz hws
  have HP := hidz hP
  have hgw : W.g < w.heap.size := lt_sizez (hP.cells W hW).1
  have hok := (hU W hW).1
  have HOK : Hid (OkW 1000 W) := ⟨hok.1, by have := hok.2.1; omega, hok.2.2.1, by have := hok.2.2.2; omega⟩
  have x0 := block_cell hX
  clear hin hU hS hP hws h1 h2 hno hok
  go_enter Tryz.func74, Tryz.ntmps74
  go_wp2_with fail
  rw [← hwA]
  clear hwA x0
  refine (placeOf_any s.f s.pc s.seen s.target wA).mono ?_
  rintro e w1 ⟨rfl, hb1⟩
  obtain ⟨wC, hwC⟩ : ∃ wC, wC = w1.alloc (.cells #[.int .i64 s.f, .int .i64 s.pc] 134) := ⟨_, rfl⟩
  have hbC : Below w1.heap.size w1 wC := by rw [hwC]; exact (Below.refl _ _).alloc (Nat.le_refl _) _
  have hXC := block_kept (block_kept hX hb1) hbC
  have hPC : wC.heap[w1.heap.size]? = some (.cells #[.int .i64 s.f, .int .i64 s.pc] 134 (0, 0)) := by rw [hwC]; exact block_new _ _ _
  have hBC := hbA.trans ((hb1.trans (hbC.mono hb1.size)).mono hbA.size)
  have HPC := hidz (HP.out.mono hBC)
  have HLK : Hid (∀ w', Below wC.heap.size wC w' → (Instr.lookup 75 (.map (some b)) (.agg #[.int .i64 s.f, .int .i64 s.pc]) true).run Tryz.prog w' = .ok (.tuple #[valW W, .bool true]) w' ∧ (Instr.lookup 75 (.map (some b)) (.agg #[.int .i64 s.f, .int .i64 s.pc]) false).run Tryz.prog w' = .ok (valW W) w') := fun w' q => look_yes s.f s.pc b l1 l2 W w' (by rw [← HWS.out]; exact (HPC.out.map.mono q)) H1.out H2.out HNO.out
  have hl1 := (HLK.out wC (Below.refl _ _)).1
  rw [hwC] at hl1
  have hsz1 : w.heap.size ≤ w1.heap.size := Nat.le_trans hbA.size hb1.size
  have HBC := hidz hBC
  have HXC := hidz hXC
  have HPP := hidz hPC
  clear hb1 hX hbA hbC hXC hPC hBC HP
  go_upto_region 5 with fail
  rw [← hwC]
  clear hwC hl1
  obtain ⟨gp, hgp⟩ : ∃ gp, gp = w1.heap.size := ⟨_, rfl⟩
  have hne1 : gp ≠ W.g := by have := hsz1; omega
  have hne2 : w.heap.size + 1 ≠ W.g := by omega
  rw [← hgp] at HPP ⊢
  clear hgp hsz1 hgw
  have HS : Hid (∀ w', But W.g wC w' → w'.cell? ⟨gp, 0, none⟩ = some (.int .i64 s.f) ∧ w'.cell? ⟨gp, 1, none⟩ = some (.int .i64 s.pc) ∧ w'.cell? ⟨w.heap.size + 1, 0, none⟩ = some (.int .i64 s.f) ∧ w'.cell? ⟨w.heap.size + 1, 1, none⟩ = some (.int .i64 s.pc) ∧ w'.cell? ⟨w.heap.size + 1, 2, none⟩ = some (.int .i64 s.seen) ∧ w'.cell? ⟨w.heap.size + 1, 3, none⟩ = some (.int .i64 s.target) ∧ (Instr.lookup 75 (.map (some b)) (.agg #[.int .i64 s.f, .int .i64 s.pc]) false).run Tryz.prog w' = .ok (valW W) w') := fun w' q => ⟨by rw [block_cell (q.kept hne1 HPP.out)]; rfl, by rw [block_cell (q.kept hne1 HPP.out)]; rfl, by rw [block_cell (q.kept hne2 HXC.out)]; rfl, by rw [block_cell (q.kept hne2 HXC.out)]; rfl, by rw [block_cell (q.kept hne2 HXC.out)]; rfl, by rw [block_cell (q.kept hne2 HXC.out)]; rfl, (look_yes s.f s.pc b l1 l2 W w' (by obtain ⟨es, c, hm, he⟩ := HPC.out.map; exact ⟨es, c, q.kept (HPC.out.not_map HW.out) hm, by rw [← HWS.out]; exact he⟩) H1.out H2.out HNO.out).2⟩
  have HCW := hidz (HPC.out.cells W HW.out)
  have HFIN : Hid (∀ wX, WAt wX (joinW W s) → But W.g wC wX → AddPost lo b n fs ws s w (.returned (.tuple #[])) wX) := by
    intro wX hj hb
    refine ⟨⟨_, rfl⟩, joinAt ws s, HPC.out.joined HW.out H1.out H2.out hj hb, HUS.out.joined (fun V hV hp => ?_), tab_join HUS.out HPC.out.kinds HOS.out HIN.out, by unfold joinAt; simp, But.below (HBC.out.mono hlo) hb HCW.out.2 (Nat.le_trans hlo HBC.out.size), fun k hk _ hkW => (hb.block k (Nat.lt_of_lt_of_le hk HBC.out.size) (hkW W HW.out)).trans (HBC.out.block k hk), fun V hV => ?_⟩
    · have := HPC.out.kinds V hV
      rw [this, hp.1, hp.2]
      exact HOS.out
    · obtain ⟨U, hU, rfl⟩ := List.mem_map.1 hV
      refine .inl ⟨U, hU, ?_⟩
      split
      · exact (join_keep U s).2.2.1.symm
      · rfl
  cases hc : W.c
  · have hv : valW W = .iface 202 (.pointer (some ⟨W.g, 0, none⟩)) := by unfold valW; rw [hc]; rfl
    have HJ : Hid (Calls Tryz.prog 185 #[.pointer (some ⟨W.g, 0, none⟩), .agg #[.int .i64 s.f, .int .i64 s.pc, .int .i64 s.seen, .int .i64 s.target]] wC.drew (JoinPost W s wC.drew)) := joinNum_any W s wC.drew hc (HCW.out.1.mono (Below.refl _ _).drew) HOK.out
    rw [hv] at HS
    have m1 : ∀ (v : Value) (W : World), (Go.method 367 202 v "loop.example/g00094/impl.join").run Tryz.prog W = .ok (185, v) W := fun _ _ => by kernel_rfl
    clear hv HLK HCW HPC HPP HXC hc
    have hh : (fun w' : World => w'.cell? ⟨gp, 0, none⟩ = some (.int .i64 s.f) ∧ w'.cell? ⟨gp, 1, none⟩ = some (.int .i64 s.pc) ∧ w'.cell? ⟨w.heap.size + 1, 0, none⟩ = some (.int .i64 s.f) ∧ w'.cell? ⟨w.heap.size + 1, 1, none⟩ = some (.int .i64 s.pc) ∧ w'.cell? ⟨w.heap.size + 1, 2, none⟩ = some (.int .i64 s.seen) ∧ w'.cell? ⟨w.heap.size + 1, 3, none⟩ = some (.int .i64 s.target) ∧ (Instr.lookup 75 (.map (some b)) (.agg #[.int .i64 s.f, .int .i64 s.pc]) false).run Tryz.prog w' = .ok (.iface 202 (.pointer (some ⟨W.g, 0, none⟩))) w') _ := HS.out wC.drew (But.of_below (Below.refl _ _).drew)
    refine h_begin (fun w' : World => w'.cell? ⟨gp, 0, none⟩ = some (.int .i64 s.f) ∧ w'.cell? ⟨gp, 1, none⟩ = some (.int .i64 s.pc) ∧ w'.cell? ⟨w.heap.size + 1, 0, none⟩ = some (.int .i64 s.f) ∧ w'.cell? ⟨w.heap.size + 1, 1, none⟩ = some (.int .i64 s.pc) ∧ w'.cell? ⟨w.heap.size + 1, 2, none⟩ = some (.int .i64 s.seen) ∧ w'.cell? ⟨w.heap.size + 1, 3, none⟩ = some (.int .i64 s.target) ∧ (Instr.lookup 75 (.map (some b)) (.agg #[.int .i64 s.f, .int .i64 s.pc]) false).run Tryz.prog w' = .ok (.iface 202 (.pointer (some ⟨W.g, 0, none⟩))) w') (by kernel_rfl) ?_
    refine h_take (i := 0) (oi := _) (v := ?_) rfl (by kernel_rfl) (by kernel_rfl) (by kernel_rfl) (fun _ _ _ h => h) (by kernel_rfl) ?_ hh ?_
    rotate_left
    · intro w' hSw
      obtain ⟨j0, j1, j2, j3, j4, j5, j6⟩ := hSw
      go_simp
      try with_reducible rfl
    simp only [Act.put, List.setIfInBounds_toArray]
    refine h_take (i := 1) (oi := _) (v := ?_) rfl (by kernel_rfl) (by kernel_rfl) (by kernel_rfl) (fun _ _ _ h => h) (by kernel_rfl) ?_ hh ?_
    rotate_left
    · intro w' hSw
      obtain ⟨j0, j1, j2, j3, j4, j5, j6⟩ := hSw
      go_simp
      try with_reducible rfl
    simp only [Act.put]
    refine h_take (i := 2) (oi := _) (v := ?_) rfl (by kernel_rfl) (by kernel_rfl) (by kernel_rfl) (fun _ _ _ h => h) (by kernel_rfl) ?_ hh ?_
    rotate_left
    · intro w' hSw
      obtain ⟨j0, j1, j2, j3, j4, j5, j6⟩ := hSw
      go_simp
      try with_reducible rfl
    simp only [Act.put]
    refine h_take (i := 3) (oi := _) (v := ?_) rfl (by kernel_rfl) (by kernel_rfl) (by kernel_rfl) (fun _ _ _ h => h) (by kernel_rfl) ?_ hh ?_
    rotate_left
    · intro w' hSw
      obtain ⟨j0, j1, j2, j3, j4, j5, j6⟩ := hSw
      go_simp
      try with_reducible rfl
    simp only [Act.put]
    refine h_one (i := 4) (o := _) (by kernel_rfl) rfl (fun K hK => ?_)
    go_simp
    go_at_call 185
    refine HJ.out.mono ?_
    rintro e wX ⟨⟨vr, rfl⟩, hP1, hP2⟩
    have hbX := (But.of_below (Below.refl _ _).drew : But W.g wC wC.drew).trans hP2
    have HR := hidz (And.intro hP1 hbX)
    clear hP1 hP2
    have hh : (fun w' : World => w'.cell? ⟨gp, 0, none⟩ = some (.int .i64 s.f) ∧ w'.cell? ⟨gp, 1, none⟩ = some (.int .i64 s.pc) ∧ w'.cell? ⟨w.heap.size + 1, 0, none⟩ = some (.int .i64 s.f) ∧ w'.cell? ⟨w.heap.size + 1, 1, none⟩ = some (.int .i64 s.pc) ∧ w'.cell? ⟨w.heap.size + 1, 2, none⟩ = some (.int .i64 s.seen) ∧ w'.cell? ⟨w.heap.size + 1, 3, none⟩ = some (.int .i64 s.target) ∧ (Instr.lookup 75 (.map (some b)) (.agg #[.int .i64 s.f, .int .i64 s.pc]) false).run Tryz.prog w' = .ok (.iface 202 (.pointer (some ⟨W.g, 0, none⟩))) w') _ := HS.out wX hbX
    refine hK.out _ _ hh ?_
    clear hK K
    try simp only [Act.put]
    refine wpAnyH_done (by kernel_rfl) ?_ _
    go_end0
    exact HFIN.out _ HR.out.1 HR.out.2
  · have hv : valW W = .iface 197 (.pointer (some ⟨W.g, 0, none⟩)) := by unfold valW; rw [hc]; rfl
    have HJ : Hid (Calls Tryz.prog 181 #[.pointer (some ⟨W.g, 0, none⟩), .agg #[.int .i64 s.f, .int .i64 s.pc, .int .i64 s.seen, .int .i64 s.target]] wC.drew (JoinPost W s wC.drew)) := joinCall_any W s wC.drew hc (HCW.out.1.mono (Below.refl _ _).drew) HOK.out
    rw [hv] at HS
    have m1 : ∀ (v : Value) (W : World), (Go.method 367 197 v "loop.example/g00094/impl.join").run Tryz.prog W = .ok (181, v) W := fun _ _ => by kernel_rfl
    clear hv HLK HCW HPC HPP HXC hc
    have hh : (fun w' : World => w'.cell? ⟨gp, 0, none⟩ = some (.int .i64 s.f) ∧ w'.cell? ⟨gp, 1, none⟩ = some (.int .i64 s.pc) ∧ w'.cell? ⟨w.heap.size + 1, 0, none⟩ = some (.int .i64 s.f) ∧ w'.cell? ⟨w.heap.size + 1, 1, none⟩ = some (.int .i64 s.pc) ∧ w'.cell? ⟨w.heap.size + 1, 2, none⟩ = some (.int .i64 s.seen) ∧ w'.cell? ⟨w.heap.size + 1, 3, none⟩ = some (.int .i64 s.target) ∧ (Instr.lookup 75 (.map (some b)) (.agg #[.int .i64 s.f, .int .i64 s.pc]) false).run Tryz.prog w' = .ok (.iface 197 (.pointer (some ⟨W.g, 0, none⟩))) w') _ := HS.out wC.drew (But.of_below (Below.refl _ _).drew)
    refine h_begin (fun w' : World => w'.cell? ⟨gp, 0, none⟩ = some (.int .i64 s.f) ∧ w'.cell? ⟨gp, 1, none⟩ = some (.int .i64 s.pc) ∧ w'.cell? ⟨w.heap.size + 1, 0, none⟩ = some (.int .i64 s.f) ∧ w'.cell? ⟨w.heap.size + 1, 1, none⟩ = some (.int .i64 s.pc) ∧ w'.cell? ⟨w.heap.size + 1, 2, none⟩ = some (.int .i64 s.seen) ∧ w'.cell? ⟨w.heap.size + 1, 3, none⟩ = some (.int .i64 s.target) ∧ (Instr.lookup 75 (.map (some b)) (.agg #[.int .i64 s.f, .int .i64 s.pc]) false).run Tryz.prog w' = .ok (.iface 197 (.pointer (some ⟨W.g, 0, none⟩))) w') (by kernel_rfl) ?_
    refine h_take (i := 0) (oi := _) (v := ?_) rfl (by kernel_rfl) (by kernel_rfl) (by kernel_rfl) (fun _ _ _ h => h) (by kernel_rfl) ?_ hh ?_
    rotate_left
    · intro w' hSw
      obtain ⟨j0, j1, j2, j3, j4, j5, j6⟩ := hSw
      go_simp
      try with_reducible rfl
    simp only [Act.put, List.setIfInBounds_toArray]
    refine h_take (i := 1) (oi := _) (v := ?_) rfl (by kernel_rfl) (by kernel_rfl) (by kernel_rfl) (fun _ _ _ h => h) (by kernel_rfl) ?_ hh ?_
    rotate_left
    · intro w' hSw
      obtain ⟨j0, j1, j2, j3, j4, j5, j6⟩ := hSw
      go_simp
      try with_reducible rfl
    simp only [Act.put]
    refine h_take (i := 2) (oi := _) (v := ?_) rfl (by kernel_rfl) (by kernel_rfl) (by kernel_rfl) (fun _ _ _ h => h) (by kernel_rfl) ?_ hh ?_
    rotate_left
    · intro w' hSw
      obtain ⟨j0, j1, j2, j3, j4, j5, j6⟩ := hSw
      go_simp
      try with_reducible rfl
    simp only [Act.put]
    refine h_take (i := 3) (oi := _) (v := ?_) rfl (by kernel_rfl) (by kernel_rfl) (by kernel_rfl) (fun _ _ _ h => h) (by kernel_rfl) ?_ hh ?_
    rotate_left
    · intro w' hSw
      obtain ⟨j0, j1, j2, j3, j4, j5, j6⟩ := hSw
      go_simp
      try with_reducible rfl
    simp only [Act.put]
    refine h_one (i := 4) (o := _) (by kernel_rfl) rfl (fun K hK => ?_)
    go_simp
    go_at_call 181
    refine HJ.out.mono ?_
    rintro e wX ⟨⟨vr, rfl⟩, hP1, hP2⟩
    have hbX := (But.of_below (Below.refl _ _).drew : But W.g wC wC.drew).trans hP2
    have HR := hidz (And.intro hP1 hbX)
    clear hP1 hP2
    have hh : (fun w' : World => w'.cell? ⟨gp, 0, none⟩ = some (.int .i64 s.f) ∧ w'.cell? ⟨gp, 1, none⟩ = some (.int .i64 s.pc) ∧ w'.cell? ⟨w.heap.size + 1, 0, none⟩ = some (.int .i64 s.f) ∧ w'.cell? ⟨w.heap.size + 1, 1, none⟩ = some (.int .i64 s.pc) ∧ w'.cell? ⟨w.heap.size + 1, 2, none⟩ = some (.int .i64 s.seen) ∧ w'.cell? ⟨w.heap.size + 1, 3, none⟩ = some (.int .i64 s.target) ∧ (Instr.lookup 75 (.map (some b)) (.agg #[.int .i64 s.f, .int .i64 s.pc]) false).run Tryz.prog w' = .ok (.iface 197 (.pointer (some ⟨W.g, 0, none⟩))) w') _ := HS.out wX hbX
    refine hK.out _ _ hh ?_
    clear hK K
    try simp only [Act.put]
    refine wpAnyH_done (by kernel_rfl) ?_ _
    go_end0
    exact HFIN.out _ HR.out.1 HR.out.2
end Go.Proofs.YtmmcockkbhnopaaGreat
