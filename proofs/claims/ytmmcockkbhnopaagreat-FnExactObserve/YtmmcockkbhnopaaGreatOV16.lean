/-
  insAt: the instruction at a place of a module.
  siteOk: whether a site may have been watched in runs of a module.
-/
import Derived.Test.YtmmcockkbhnopaaGreatOV11
import Derived.Test.YtmmcockkbhnopaaGreatOV5
import Derived.Deep.CutRange
namespace Go.Proofs.YtmmcockkbhnopaaGreat
open Go.RowKit

/-- The instruction at a place, if there is one. -/
def insD (fs : List Fn) (f p : Int) : Option (Int × Int) := if 0 ≤ f ∧ 0 ≤ p then (fs[f.toNat]?).bind (fun g => g.code[p.toNat]?) else none
theorem insD_hit {fs : List Fn} {f p : Nat} (hf : f < fs.length) (hp : p < fs[f].code.length) : insD fs f p = some fs[f].code[p] := by
  unfold insD
  rw [if_pos ⟨Int.natCast_nonneg _, Int.natCast_nonneg _⟩]
  simp [hf, hp]
theorem insD_some {fs : List Fn} {f p : Int} {x : Int × Int} (h : insD fs f p = some x) : ∃ (f' p' : Nat) (hf : f' < fs.length) (hp : p' < fs[f'].code.length), f = f' ∧ p = p' ∧ fs[f'].code[p'] = x := by
  unfold insD at h
  split at h
  · rename_i h0
    obtain ⟨g, hg, hx⟩ := Option.bind_eq_some_iff.1 h
    obtain ⟨hf, rfl⟩ := List.getElem?_eq_some_iff.1 hg
    obtain ⟨hp, hx⟩ := List.getElem?_eq_some_iff.1 hx
    exact ⟨f.toNat, p.toNat, hf, hp, by omega, by omega, hx⟩
  · cases h

set_option maxRecDepth 100000 in
set_option maxHeartbeats 4000000 in
theorem insAt_hit (a1 a2 : Option Addr) (nt c1 c2 : Nat) (fs : List Fn) (f p : Nat) (w : World) (hc : ∀ f ∈ fs, f.code.length ≤ 1048576) (hm : FnsAt w 0 a2 fs) (hf : f < fs.length) (hp : p < fs[f].code.length) :
    Calls Tryz.prog 122 #[.agg #[.slice a1 nt c1, .slice a2 fs.length c2], .agg #[.int .i64 f, .int .i64 p]] w fun e w' => e = .returned (.tuple #[.agg #[.int .i64 fs[f].code[p].1, .int .i64 fs[f].code[p].2], .bool true]) ∧ Below w.heap.size w w' := by
  obtain ⟨b, off, ca, cc, rfl, -, d1, d2, d3, hcode⟩ := hm f hf
  have hcl := hc _ (List.getElem_mem hf)
  obtain ⟨b2, off2, rfl, -, e1, e2⟩ := hcode p hp
  clear hcode d1 d2
  obtain ⟨op, hop⟩ : ∃ op, op = fs[f].code[p].1 := ⟨_, rfl⟩
  obtain ⟨ar, har⟩ : ∃ ar, ar = fs[f].code[p].2 := ⟨_, rfl⟩
  rw [← hop] at e1 ⊢
  rw [← har] at e2 ⊢
  clear hop har
  obtain ⟨nc, hnc⟩ : ∃ nc, nc = fs[f].code.length := ⟨_, rfl⟩
  rw [← hnc] at d3 hp hcl
  clear hnc
  obtain ⟨nf, hnf⟩ : ∃ nf, nf = fs.length := ⟨_, rfl⟩
  rw [← hnf] at hf ⊢
  clear hnf hc hm
  obtain ⟨wA, hwA⟩ : ∃ wA, wA = ((w.alloc (.cells #[.slice a1 nt c1, .slice (some ⟨b, off, none⟩) nf c2] 40)).alloc (.cells #[.int .i64 f, .int .i64 p] 134)).alloc (.cells #[.int .i64 0, .int .i64 0] 152) := ⟨_, rfl⟩
  have hB : Below w.heap.size w wA := by rw [hwA]; exact (((Below.refl _ _).alloc (Nat.le_refl _) _).alloc (by simp) _).alloc (by simp; omega) _
  have hM : wA.heap[w.heap.size]? = some (.cells #[.slice a1 nt c1, .slice (some ⟨b, off, none⟩) nf c2] 40 (0, 0)) := by rw [hwA]; exact block_old (block_old (block_new _ _ _) _) _
  have hA : wA.heap[w.heap.size + 1]? = some (.cells #[.int .i64 f, .int .i64 p] 134 (0, 0)) := by rw [hwA]; exact block_old (by simpa using block_new (w.alloc (.cells #[.slice a1 nt c1, .slice (some ⟨b, off, none⟩) nf c2] 40)) #[.int .i64 f, .int .i64 p] 134) _
  have hR : wA.heap[w.heap.size + 1 + 1]? = some (.cells #[.int .i64 0, .int .i64 0] 152 (0, 0)) := by rw [hwA]; simpa using block_new ((w.alloc (.cells #[.slice a1 nt c1, .slice (some ⟨b, off, none⟩) nf c2] 40)).alloc (.cells #[.int .i64 f, .int .i64 p] 134)) #[.int .i64 0, .int .i64 0] 152
  have HS : Hid (∀ w', Below (w.heap.size + 2) wA w' → w'.cell? ⟨w.heap.size, 1, none⟩ = some (.slice (some ⟨b, off, none⟩) nf c2) ∧ w'.cell? ⟨w.heap.size + 1, 0, none⟩ = some (.int .i64 f) ∧ w'.cell? ⟨w.heap.size + 1, 1, none⟩ = some (.int .i64 p) ∧ w'.cell? ⟨b, off + f * 3 + 2, none⟩ = some (.slice (some ⟨b2, off2, none⟩) nc cc) ∧ w'.cell? ⟨b2, off2 + p * 2, none⟩ = some (.int .i64 op) ∧ w'.cell? ⟨b2, off2 + p * 2 + 1, none⟩ = some (.int .i64 ar)) := fun w' q => by
    have q2 : Below w.heap.size w w' := hB.trans (q.mono (by omega))
    exact ⟨by rw [q.cell (by simp), block_cell hM]; rfl, by rw [q.cell (by simp), block_cell hA]; rfl, by rw [q.cell (by simp), block_cell hA]; rfl, cell_later q2 d3, cell_later q2 e1, cell_later q2 e2⟩
  have q0 : Below (w.heap.size + 2) wA wA := Below.refl _ _
  go_enter Tryz.func122, Tryz.ntmps122
  go_upto_region 1 with fail
  rw [← hwA]
  clear hwA
  obtain ⟨j0, j1, j2, j3, j4, j5⟩ := HS.out wA q0
  have g1 : ¬ ((f : Int) < 0) := by omega
  have g2 : ¬ ((nf : Int) ≤ (f : Int)) := by omega
  have g3 : ¬ ((p : Int) < 0) := by omega
  have g4 : ¬ ((nc : Int) ≤ (p : Int)) := by omega
  go_big_quiet (fail)
  go_upto_region 3 with fail
  have q : Below (w.heap.size + 2) wA (wA.drewN nq).drew := (below_draws (Below.refl _ _) _).drew
  have z1 : wA.cell? ⟨w.heap.size + 1 + 1, 0, none⟩ = some (.int .i64 0) := block_cell hR 0
  have z1b : wA.cell? ⟨w.heap.size + 1 + 1, 1, none⟩ = some (.int .i64 0) := block_cell hR 1
  have z2 := block_free hR 0
  have z3 := block_free hR 1
  go_region_held3 (fun w' => w'.cell? ⟨w.heap.size, 1, none⟩ = some (.slice (some ⟨b, off, none⟩) nf c2) ∧ w'.cell? ⟨w.heap.size + 1, 0, none⟩ = some (.int .i64 f) ∧ w'.cell? ⟨w.heap.size + 1, 1, none⟩ = some (.int .i64 p) ∧ w'.cell? ⟨b, off + f * 3 + 2, none⟩ = some (.slice (some ⟨b2, off2, none⟩) nc cc) ∧ w'.cell? ⟨b2, off2 + p * 2, none⟩ = some (.int .i64 op) ∧ w'.cell? ⟨b2, off2 + p * 2 + 1, none⟩ = some (.int .i64 ar))
    (first | exact HS.out _ (below_draws (Below.refl _ _) _) | exact HS.out _ (below_draws (Below.refl _ _) _).drew | (refine HS.out _ ?_; repeat (first | refine Below.setCell ?_ (by first | omega | (simp; omega) | simp) _ | refine Below.drew ?_ | exact below_draws (Below.refl _ _) _)))
    (fail)
  have hR2 : (((wA.drewN (nq + 1)).setCell ⟨w.heap.size + 1 + 1, 0, none⟩ (.int .i64 op)).setCell ⟨w.heap.size + 1 + 1, 1, none⟩ (.int .i64 ar)).heap[w.heap.size + 1 + 1]? = some (.cells #[.int .i64 op, .int .i64 ar] 152 (0, 0)) := by
    have h1 := block_set (i := 0) (block_kept hR (below_draws (Below.refl _ _) (nq + 1))) (.int .i64 op)
    have h2 := block_set (i := 1) h1 (.int .i64 ar)
    simpa using h2
  have r1 := block_cell hR2
  clear z1 z1b z2 z3 hR2
  go_wp2
  refine bodyPost_ret (v := .tuple #[.agg #[.int .i64 op, .int .i64 ar], .bool true]) (by simp [results, Tryz.results122, go_sem, r1]) rfl ⟨rfl, ?_⟩
  exact ((below_draws hB _).setCell (by simp; omega) _).setCell (by simp; omega) _

set_option maxRecDepth 100000 in
set_option maxHeartbeats 4000000 in
theorem insAt_miss (a1 a2 : Option Addr) (nt c1 c2 : Nat) (fs : List Fn) (f p : Int) (w : World) (hc : ∀ f ∈ fs, f.code.length ≤ 1048576) (hm : FnsAt w 0 a2 fs) (hno : insD fs f p = none) :
    Calls Tryz.prog 122 #[.agg #[.slice a1 nt c1, .slice a2 fs.length c2], .agg #[.int .i64 f, .int .i64 p]] w fun e w' => e = .returned (.tuple #[.agg #[.int .i64 0, .int .i64 0], .bool false]) ∧ Below w.heap.size w w' := by
  obtain ⟨nf, hnf⟩ : ∃ nf, nf = fs.length := ⟨_, rfl⟩
  obtain ⟨wA, hwA⟩ : ∃ wA, wA = ((w.alloc (.cells #[.slice a1 nt c1, .slice a2 nf c2] 40)).alloc (.cells #[.int .i64 f, .int .i64 p] 134)).alloc (.cells #[.int .i64 0, .int .i64 0] 152) := ⟨_, rfl⟩
  have hB : Below w.heap.size w wA := by rw [hwA]; exact (((Below.refl _ _).alloc (Nat.le_refl _) _).alloc (by simp) _).alloc (by simp; omega) _
  have hM : wA.heap[w.heap.size]? = some (.cells #[.slice a1 nt c1, .slice a2 nf c2] 40 (0, 0)) := by rw [hwA]; exact block_old (block_old (block_new _ _ _) _) _
  have hA : wA.heap[w.heap.size + 1]? = some (.cells #[.int .i64 f, .int .i64 p] 134 (0, 0)) := by rw [hwA]; exact block_old (by simpa using block_new (w.alloc (.cells #[.slice a1 nt c1, .slice a2 nf c2] 40)) #[.int .i64 f, .int .i64 p] 134) _
  have hR : wA.heap[w.heap.size + 1 + 1]? = some (.cells #[.int .i64 0, .int .i64 0] 152 (0, 0)) := by rw [hwA]; simpa using block_new ((w.alloc (.cells #[.slice a1 nt c1, .slice a2 nf c2] 40)).alloc (.cells #[.int .i64 f, .int .i64 p] 134)) #[.int .i64 0, .int .i64 0] 152
  have j0 := block_cell hM
  have j1 := block_cell hA
  have z1 := block_cell hR
  have z2 := block_free hR
  have HN : Hid (0 ≤ f → 0 ≤ p → ∀ (hf : f.toNat < fs.length), ¬ p.toNat < fs[f.toNat].code.length) := by
    show _ → _
    intro h0 h1 hf hp
    have := insD_hit hf hp
    rw [show ((f.toNat : Nat) : Int) = f by omega, show ((p.toNat : Nat) : Int) = p by omega, hno] at this
    cases this
  clear hno
  rw [← hnf]
  have HNF : Hid (nf = fs.length) := hnf
  clear hnf
  by_cases h1 : f < 0
  · clear hc hm hM hA hR
    go_enter Tryz.func122, Tryz.ntmps122
    go_upto_region 1 with fail
    rw [← hwA]
    clear hwA
    go_big_quiet (fail)
    go_wp2
    refine bodyPost_ret (v := .tuple #[.agg #[.int .i64 0, .int .i64 0], .bool false]) (by simp [results, Tryz.results122, go_sem, z1]) rfl ⟨rfl, ?_⟩
    exact ((below_draws hB _).setCell (by simp; omega) _).setCell (by simp; omega) _
  obtain ⟨f, rfl⟩ : ∃ f' : Nat, f = f' := ⟨f.toNat, by omega⟩
  by_cases h2 : f < nf
  case neg =>
    clear hc hm hM hA hR
    go_enter Tryz.func122, Tryz.ntmps122
    go_upto_region 1 with fail
    rw [← hwA]
    clear hwA
    have g1 : ¬ ((f : Int) < 0) := by omega
    have g2 : (nf : Int) ≤ (f : Int) := by omega
    go_big_quiet (fail)
    go_wp2
    refine bodyPost_ret (v := .tuple #[.agg #[.int .i64 0, .int .i64 0], .bool false]) (by simp [results, Tryz.results122, go_sem, z1]) rfl ⟨rfl, ?_⟩
    exact ((below_draws hB _).setCell (by simp; omega) _).setCell (by simp; omega) _
  by_cases h3 : p < 0
  · clear hc hm hM hA hR
    go_enter Tryz.func122, Tryz.ntmps122
    go_upto_region 1 with fail
    rw [← hwA]
    clear hwA
    have g1 : ¬ ((f : Int) < 0) := by omega
    have g2 : ¬ (nf : Int) ≤ (f : Int) := by omega
    go_big_quiet (fail)
    go_wp2
    refine bodyPost_ret (v := .tuple #[.agg #[.int .i64 0, .int .i64 0], .bool false]) (by simp [results, Tryz.results122, go_sem, z1]) rfl ⟨rfl, ?_⟩
    exact ((below_draws hB _).setCell (by simp; omega) _).setCell (by simp; omega) _
  obtain ⟨p, rfl⟩ : ∃ p' : Nat, p = p' := ⟨p.toNat, by omega⟩
  have h2' : f < fs.length := by rw [← HNF.out]; exact h2
  have h4 := HN.out (by omega) (by omega) (by simpa using h2')
  simp only [Int.toNat_natCast] at h4
  obtain ⟨b, off, ca, cc, rfl, -, d1, d2, d3, hcode⟩ := hm f h2'
  have hcl := hc _ (List.getElem_mem h2')
  have d3' := cell_later hB d3
  clear d1 d2 d3 hcode hc hm hM hA hR HN
  obtain ⟨nc, hnc⟩ : ∃ nc, nc = fs[f].code.length := ⟨_, rfl⟩
  rw [← hnc] at d3' h4 hcl
  clear hnc
  go_enter Tryz.func122, Tryz.ntmps122
  go_upto_region 1 with fail
  rw [← hwA]
  clear hwA
  have g1 : ¬ ((f : Int) < 0) := by omega
  have g2 : ¬ (nf : Int) ≤ (f : Int) := by omega
  have g3 : ¬ ((p : Int) < 0) := by omega
  have g4 : (nc : Int) ≤ (p : Int) := by omega
  go_big_quiet (fail)
  go_wp2
  refine bodyPost_ret (v := .tuple #[.agg #[.int .i64 0, .int .i64 0], .bool false]) (by simp [results, Tryz.results122, go_sem, z1]) rfl ⟨rfl, ?_⟩
  exact ((below_draws hB _).setCell (by simp; omega) _).setCell (by simp; omega) _
/-- insAt, whatever the place. -/
theorem insAt_any (a1 a2 : Option Addr) (nt c1 c2 : Nat) (fs : List Fn) (f p : Int) (w : World) (hc : ∀ f ∈ fs, f.code.length ≤ 1048576) (hm : FnsAt w 0 a2 fs) :
    Calls Tryz.prog 122 #[.agg #[.slice a1 nt c1, .slice a2 fs.length c2], .agg #[.int .i64 f, .int .i64 p]] w fun e w' => e = .returned (.tuple #[.agg #[.int .i64 ((insD fs f p).getD (0, 0)).1, .int .i64 ((insD fs f p).getD (0, 0)).2], .bool (insD fs f p).isSome]) ∧ Below w.heap.size w w' := by
  cases h : insD fs f p with
  | none => exact insAt_miss a1 a2 nt c1 c2 fs f p w hc hm h
  | some x =>
    obtain ⟨f', p', hf, hp, rfl, rfl, rfl⟩ := insD_some h
    exact insAt_hit a1 a2 nt c1 c2 fs f' p' w hc hm hf hp
end Go.Proofs.YtmmcockkbhnopaaGreat

namespace Go.Proofs.YtmmcockkbhnopaaGreat
open Go.RowKit

/-- What may be seen at an instruction. -/
def OpP (n : Nat) (op seen target : Int) : Prop := (op = 23 ∧ ((seen = 1 ∧ 0 ≤ target ∧ target < n) ∨ (seen = 2 ∧ target = 0))) ∨ (11 ≤ op ∧ op ≤ 14 ∧ 1 ≤ seen ∧ seen ≤ 3 ∧ target = 0)
/-- The site is at one of the module's instructions, and tells what may be seen there. -/
def SiteP (fs : List Fn) (s : Si) : Prop := 0 ≤ s.f ∧ 0 ≤ s.pc ∧ ∃ (hf : s.f.toNat < fs.length) (hp : s.pc.toNat < fs[s.f.toNat].code.length), OpP fs.length (fs[s.f.toNat].code[s.pc.toNat].1) s.seen s.target

theorem site_iff {fs : List Fn} {f p : Nat} {sn tg : Int} (hf : f < fs.length) (hp : p < fs[f].code.length) : SiteP fs ⟨f, p, sn, tg⟩ ↔ OpP fs.length (fs[f].code[p].1) sn tg :=
  ⟨fun h => h.2.2.2.2, fun h => ⟨Int.natCast_nonneg _, Int.natCast_nonneg _, hf, hp, h⟩⟩

theorem numberOp_yes {op : Int} (h : 11 ≤ op ∧ op ≤ 14) (w : World) : Calls Tryz.prog 110 #[.int .i64 op] w fun e w' => e = .returned (.bool true) ∧ w' = w := by
  have := numberOp_any op w
  rwa [decide_eq_true h] at this
theorem numberOp_no {op : Int} (h : ¬ (11 ≤ op ∧ op ≤ 14)) (w : World) : Calls Tryz.prog 110 #[.int .i64 op] w fun e w' => e = .returned (.bool false) ∧ w' = w := by
  have := numberOp_any op w
  rwa [decide_eq_false h] at this


theorem block_new_drew (w : World) (C : Array Value) (t : TypeId) : (w.alloc (.cells C t)).drew.heap[w.heap.size]? = some (.cells C t (0, 0)) := block_kept (block_new w C t) (Below.refl _ _).drew
theorem stored2 {w : World} {g : Nat} {a b x y : Value} {t : TypeId} (h : w.heap[g]? = some (.cells #[a, b] t (0, 0))) : ((w.setCell ⟨g, 0, none⟩ x).setCell ⟨g, 1, none⟩ y).heap[g]? = some (.cells #[x, y] t (0, 0)) := by
  simpa using block_set (i := 1) (block_set (i := 0) h x) y
theorem stored4 {w : World} {g : Nat} {a b c d x y z u : Value} {t : TypeId} (h : w.heap[g]? = some (.cells #[a, b, c, d] t (0, 0))) : ((((w.setCell ⟨g, 0, none⟩ x).setCell ⟨g, 1, none⟩ y).setCell ⟨g, 2, none⟩ z).setCell ⟨g, 3, none⟩ u).heap[g]? = some (.cells #[x, y, z, u] t (0, 0)) := by
  simpa using block_set (i := 3) (block_set (i := 2) (block_set (i := 1) (block_set (i := 0) h x) y) z) u
theorem site_ins (fs : List Fn) (s : Si) : SiteP fs s ↔ (insD fs s.f s.pc).isSome = true ∧ OpP fs.length ((insD fs s.f s.pc).getD (0, 0)).1 s.seen s.target := by
  constructor
  · rintro ⟨h0, h1, hf, hp, hop⟩
    have := insD_hit hf hp
    rw [show ((s.f.toNat : Nat) : Int) = s.f by omega, show ((s.pc.toNat : Nat) : Int) = s.pc by omega] at this
    rw [this]
    exact ⟨rfl, hop⟩
  · rintro ⟨h0, h1⟩
    obtain ⟨x, hx⟩ := Option.isSome_iff_exists.1 h0
    rw [hx] at h1
    obtain ⟨f, p, hf, hp, ef, ep, rfl⟩ := insD_some hx
    refine ⟨by omega, by omega, by rw [ef]; exact hf, by simp only [ef, ep, Int.toNat_natCast]; exact hp, ?_⟩
    simp only [ef, ep, Int.toNat_natCast]
    exact h1

set_option maxRecDepth 100000 in
set_option maxHeartbeats 4000000 in
theorem siteOk_any (a1 a2 : Option Addr) (nt c1 c2 : Nat) (fs : List Fn) (s : Si) (w : World) (hc : ∀ f ∈ fs, f.code.length ≤ 1048576) (hm : FnsAt w 0 a2 fs) :
    Calls Tryz.prog 96 #[.agg #[.slice a1 nt c1, .slice a2 fs.length c2], .agg #[.int .i64 s.f, .int .i64 s.pc, .int .i64 s.seen, .int .i64 s.target]] w fun e w' => e = .returned (.bool (pB (SiteP fs s))) ∧ Below w.heap.size w w' := by
  have HI : Hid (SiteP fs s ↔ (insD fs s.f s.pc).isSome = true ∧ OpP fs.length ((insD fs s.f s.pc).getD (0, 0)).1 s.seen s.target) := site_ins fs s
  obtain ⟨r, hr⟩ : ∃ r, r = pB (SiteP fs s) := ⟨_, rfl⟩
  rw [← hr]
  have HR : Hid (r = pB (SiteP fs s)) := hr
  clear hr
  obtain ⟨sf, sp, sn, tg⟩ := s
  dsimp only at *
  have hI : ∀ w', Below w.heap.size w w' → _ := fun w' hb => insAt_any a1 a2 nt c1 c2 fs sf sp w' hc (hm.mono hb)
  have HC := hI
  clear hI
  obtain ⟨op, hop⟩ : ∃ op, op = ((insD fs sf sp).getD (0, 0)).1 := ⟨_, rfl⟩
  obtain ⟨ar, har⟩ : ∃ ar, ar = ((insD fs sf sp).getD (0, 0)).2 := ⟨_, rfl⟩
  obtain ⟨fd, hfd⟩ : ∃ fd, fd = (insD fs sf sp).isSome := ⟨_, rfl⟩
  simp only [← hop, ← har, ← hfd] at HC
  rw [← hop, ← hfd] at HI
  clear hop har hfd
  obtain ⟨w2, hw2⟩ : ∃ w2, w2 = (w.alloc (.cells #[.slice a1 nt c1, .slice a2 fs.length c2] 40)).alloc (.cells #[.int .i64 sf, .int .i64 sp, .int .i64 sn, .int .i64 tg] 68) := ⟨_, rfl⟩
  have hB : Below w.heap.size w w2 := by rw [hw2]; exact ((Below.refl _ _).alloc (Nat.le_refl _) _).alloc (by simp) _
  have hX : w2.heap[w.heap.size]? = some (.cells #[.slice a1 nt c1, .slice a2 fs.length c2] 40 (0, 0)) := by rw [hw2]; exact block_old (block_new _ _ _) _
  have hY : w2.heap[w.heap.size + 1]? = some (.cells #[.int .i64 sf, .int .i64 sp, .int .i64 sn, .int .i64 tg] 68 (0, 0)) := by rw [hw2]; simpa using block_new (w.alloc (.cells #[.slice a1 nt c1, .slice a2 fs.length c2] 40)) #[.int .i64 sf, .int .i64 sp, .int .i64 sn, .int .i64 tg] 68
  have HZ : Hid (w.heap.size + 2 ≤ w2.heap.size) := by rw [hw2]; show _ ≤ _; simp
  have HS : Hid (∀ w', Below (w.heap.size + 2) w2 w' → w'.cell? ⟨w.heap.size, 0, none⟩ = some (.slice a1 nt c1) ∧ w'.cell? ⟨w.heap.size, 1, none⟩ = some (.slice a2 fs.length c2) ∧ w'.cell? ⟨w.heap.size + 1, 0, none⟩ = some (.int .i64 sf) ∧ w'.cell? ⟨w.heap.size + 1, 1, none⟩ = some (.int .i64 sp) ∧ w'.cell? ⟨w.heap.size + 1, 2, none⟩ = some (.int .i64 sn) ∧ w'.cell? ⟨w.heap.size + 1, 3, none⟩ = some (.int .i64 tg)) := fun w' hb =>
    ⟨by rw [hb.cell (by simp), block_cell hX]; rfl, by rw [hb.cell (by simp), block_cell hX]; rfl, by rw [hb.cell (by simp), block_cell hY]; rfl, by rw [hb.cell (by simp), block_cell hY]; rfl, by rw [hb.cell (by simp), block_cell hY]; rfl, by rw [hb.cell (by simp), block_cell hY]; rfl⟩
  obtain ⟨j0, j1, j2, j3, j4, j5⟩ := HS.out w2 (Below.refl _ _)
  have q : Below w2.heap.size w2 w2.drew := (Below.refl _ _).drew
  have HB : Hid (Below w.heap.size w w2) := hB
  have HCH : Hid (∀ w', Below w.heap.size w w' → Calls Tryz.prog 122 #[.agg #[.slice a1 nt c1, .slice a2 fs.length c2], .agg #[.int .i64 sf, .int .i64 sp]] w' fun e w'' => e = .returned (.tuple #[.agg #[.int .i64 op, .int .i64 ar], .bool fd]) ∧ Below w'.heap.size w' w'') := HC
  clear HC hB hX hY hc hm
  go_enter Tryz.func96, Tryz.ntmps96
  go_upto_region 1 with fail
  rw [← hw2]
  clear hw2
  go_cut [5, 6] from 7 to 14 (fun s5 s6 wx => ∃ g, s5 = .pointer (some ⟨g, 0, none⟩) ∧ s6 = .bool fd ∧ wx.heap[g]? = some (.cells #[.int .i64 op, .int .i64 ar] 152 (0, 0)) ∧ Below w2.heap.size w2 wx)
  case first =>
    go_region_held3 (fun w' => w'.cell? ⟨w.heap.size, 0, none⟩ = some (.slice a1 nt c1) ∧ w'.cell? ⟨w.heap.size, 1, none⟩ = some (.slice a2 fs.length c2) ∧ w'.cell? ⟨w.heap.size + 1, 0, none⟩ = some (.int .i64 sf) ∧ w'.cell? ⟨w.heap.size + 1, 1, none⟩ = some (.int .i64 sp) ∧ w'.cell? ⟨w.heap.size + 1, 2, none⟩ = some (.int .i64 sn) ∧ w'.cell? ⟨w.heap.size + 1, 3, none⟩ = some (.int .i64 tg))
      (first
        | exact ⟨j0, j1, j2, j3, j4, j5⟩
        | exact HS.out _ (q.mono HZ.out)
        | exact HS.out _ ((q.mono HZ.out).alloc (Nat.le_trans HZ.out q.size) _)
        | exact HS.out _ (((q.mono HZ.out).setCell (Nat.le_trans HZ.out hg) _).setCell (Nat.le_trans HZ.out hg) _)
        | exact HS.out _ ((((q.mono HZ.out).alloc (Nat.le_trans HZ.out q.size) _).setCell (Nat.le_trans HZ.out q.size) _).setCell (Nat.le_trans HZ.out q.size) _))
      (first
        | (go_at_call 76; refine (placeOf_any _ _ _ _ _).mono ?_; rintro e wa ⟨rfl, kd⟩; (first | (have hk := block_kept hk kd; have hc := block_cell hk; have hf := block_free hk) | (have hk := block_kept (block_new_drew _ _ _) kd; have hg := Nat.le_refl w2.heap.size; have hc := block_cell hk; have hf := block_free hk) | (have hk := block_kept (block_new _ _ _) kd; have hg := q.size; have hc := block_cell hk; have hf := block_free hk) | skip); (first | (have q := q.trans (kd.mono q.size)) | (have q := (q.alloc q.size _).trans (kd.mono (by have := q.size; simp <;> omega)))))
        | (go_at_call 122; refine (HCH.out _ (by first | exact HB.out.trans (q.mono HB.out.size) | exact HB.out.trans ((q.alloc q.size _).mono HB.out.size))).mono ?_; rintro e wb ⟨rfl, kd⟩; (first | (have hk := block_kept hk kd; have hc := block_cell hk; have hf := block_free hk) | (have hk := block_kept (block_new_drew _ _ _) kd; have hg := Nat.le_refl w2.heap.size; have hc := block_cell hk; have hf := block_free hk) | (have hk := block_kept (block_new _ _ _) kd; have hg := q.size; have hc := block_cell hk; have hf := block_free hk) | skip); (first | (have q := q.trans (kd.mono q.size)) | (have q := (q.alloc q.size _).trans (kd.mono (by have := q.size; simp <;> omega))))))
    all_goals
      go_wp2_with fail
      go_meet
      case rel =>
        first
          | exact ⟨_, rfl, rfl, stored2 hk, (q.setCell hg _).setCell hg _⟩
          | exact ⟨_, rfl, rfl, block_new _ _ _, q.alloc q.size _⟩
  case rest =>
    obtain ⟨g, rfl, rfl, hG, hq⟩ := hcut
    have HB2 : Hid (Below w.heap.size w wc) := HB.out.trans (hq.mono HB.out.size)
    have c0 := block_cell hG
    clear j0 j1 j2 j3 j4 j5 q
    obtain ⟨j0, j1, j2, j3, j4, j5⟩ := HS.out wc (hq.mono HZ.out)
    clear HS HZ hq HB hG HCH
    cases fd
    case false =>
      go_wp2
      go_ret
      exact ⟨ret_bool (by rw [HR.out]; exact (pB_no (fun h => by have := (HI.out.1 h).1; cases this)).symm), HB2.out⟩
    have HO : Hid (pB (SiteP fs ⟨sf, sp, sn, tg⟩) = true ↔ OpP fs.length op sn tg) := by
      show _ ↔ _
      by_cases h : OpP fs.length op sn tg
      · rw [pB_yes (HI.out.2 ⟨rfl, h⟩)]; simp [h]
      · rw [pB_no (fun h' => h (HI.out.1 h').2)]; simp [h]
    clear HI
    have YES : OpP fs.length op sn tg → r = true := fun h => by rw [HR.out]; exact HO.out.2 h
    have NO : ¬ OpP fs.length op sn tg → r = false := fun h => by rw [HR.out]; cases e : pB (SiteP fs ⟨sf, sp, sn, tg⟩) with | false => rfl | true => exact absurd (HO.out.1 e) h
    have HY : Hid (OpP fs.length op sn tg → r = true) := YES
    have HN : Hid (¬ OpP fs.length op sn tg → r = false) := NO
    clear YES NO HO HR
    by_cases h5 : op = 23
    · subst h5
      by_cases h6 : sn = 1
      · subst h6
        by_cases h7 : 0 ≤ tg
        · by_cases h8 : tg < fs.length
          · obtain rfl := HY.out (.inl ⟨rfl, .inl ⟨rfl, h7, h8⟩⟩)
            go_wp2
            go_ret
            exact ⟨by first | rfl | exact ret_bool (by first | rfl | (simp; omega) | (symm; simp; omega)), HB2.out⟩
          · obtain rfl := HN.out (fun h => by unfold OpP at h; omega)
            go_wp2
            go_ret
            exact ⟨by first | rfl | exact ret_bool (by first | rfl | (simp; omega) | (symm; simp; omega)), HB2.out⟩
        · obtain rfl := HN.out (fun h => by unfold OpP at h; omega)
          go_wp2
          go_ret
          exact ⟨by first | rfl | exact ret_bool (by first | rfl | (simp; omega) | (symm; simp; omega)), HB2.out⟩
      · by_cases h7 : sn = 2
        · subst h7
          by_cases h8 : tg = 0
          · subst h8
            obtain rfl := HY.out (.inl ⟨rfl, .inr ⟨rfl, rfl⟩⟩)
            go_wp2
            go_ret
            exact ⟨by first | rfl | exact ret_bool (by first | rfl | (simp; omega) | (symm; simp; omega)), HB2.out⟩
          · obtain rfl := HN.out (fun h => by unfold OpP at h; omega)
            go_wp2
            go_ret
            exact ⟨by first | rfl | exact ret_bool (by first | rfl | (simp; omega) | (symm; simp; omega)), HB2.out⟩
        · obtain rfl := HN.out (fun h => by unfold OpP at h; omega)
          go_wp2
          go_ret
          exact ⟨by first | rfl | exact ret_bool (by first | rfl | (simp; omega) | (symm; simp; omega)), HB2.out⟩
    · by_cases h6 : 11 ≤ op ∧ op ≤ 14
      · have H6 : Hid (11 ≤ op ∧ op ≤ 14) := h6
        by_cases h7 : 1 ≤ sn
        · by_cases h8 : sn ≤ 3
          · by_cases h9 : tg = 0
            · subst h9
              obtain rfl := HY.out (.inr ⟨h6.1, h6.2, h7, h8, rfl⟩)
              clear h6
              go_wp2_with (go_at_call 110; refine (numberOp_yes H6.out _).mono ?_; rintro e w' ⟨rfl, rfl⟩)
              go_ret
              exact ⟨by first | rfl | exact ret_bool (by first | rfl | (simp; omega) | (symm; simp; omega)), HB2.out⟩
            · obtain rfl := HN.out (fun h => by unfold OpP at h; omega)
              clear h6
              go_wp2_with (go_at_call 110; refine (numberOp_yes H6.out _).mono ?_; rintro e w' ⟨rfl, rfl⟩)
              go_ret
              exact ⟨by first | rfl | exact ret_bool (by first | rfl | (simp; omega) | (symm; simp; omega)), HB2.out⟩
          · obtain rfl := HN.out (fun h => by unfold OpP at h; omega)
            clear h6
            go_wp2_with (go_at_call 110; refine (numberOp_yes H6.out _).mono ?_; rintro e w' ⟨rfl, rfl⟩)
            go_ret
            exact ⟨by first | rfl | exact ret_bool (by first | rfl | (simp; omega) | (symm; simp; omega)), HB2.out⟩
        · obtain rfl := HN.out (fun h => by unfold OpP at h; omega)
          clear h6
          go_wp2_with (go_at_call 110; refine (numberOp_yes H6.out _).mono ?_; rintro e w' ⟨rfl, rfl⟩)
          go_ret
          exact ⟨by first | rfl | exact ret_bool (by first | rfl | (simp; omega) | (symm; simp; omega)), HB2.out⟩
      · have H6 : Hid (¬ (11 ≤ op ∧ op ≤ 14)) := h6
        obtain rfl := HN.out (fun h => by unfold OpP at h; omega)
        clear h6
        go_wp2_with (go_at_call 110; refine (numberOp_no H6.out _).mono ?_; rintro e w' ⟨rfl, rfl⟩)
        go_ret
        exact ⟨by first | rfl | exact ret_bool (by first | rfl | (simp; omega) | (symm; simp; omega)), HB2.out⟩
end Go.Proofs.YtmmcockkbhnopaaGreat
