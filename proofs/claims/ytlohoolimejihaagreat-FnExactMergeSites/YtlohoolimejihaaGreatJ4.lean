/-
  insAt: the instruction at a place of a module.
-/
import Derived.Test.YtlohoolimejihaaGreatY4
import Derived.Test.YtlohoolimejihaaGreatMV1
import Derived.Deep.CutRange
namespace Go.Proofs.YtlohoolimejihaaGreat
open Go.RowKit

/-- The instruction at a place, if there is one. -/
def insD (fs : List Fn) (f p : Int) : Option (Int × Int) := if 0 ≤ f ∧ 0 ≤ p then (fs[f.toNat]?).bind (fun g => g.code[p.toNat]?) else none
theorem insD_hit {fs : List Fn} {f p : Nat} (hf : f < fs.length) (hp : p < fs[f].code.length) : insD fs f p = some fs[f].code[p] := by
  unfold insD
  rw [if_pos ⟨Int.natCast_nonneg _, Int.natCast_nonneg _⟩]
  simp [hf, hp]
theorem insD_some {fs : List Fn} {f p : Int} {x : Int × Int} (h : insD fs f p = some x) : ∃ (f' p' : Nat) (hf : f' < fs.length) (hp : p' < fs[f'].code.length), f = f' ∧ p = p' ∧ fs[f'].code[p'] = x := by
  unfold insD at h
  split at h
  · rename_i h0
    obtain ⟨g, hg, hx⟩ := Option.bind_eq_some_iff.1 h
    obtain ⟨hf, rfl⟩ := List.getElem?_eq_some_iff.1 hg
    obtain ⟨hp, hx⟩ := List.getElem?_eq_some_iff.1 hx
    exact ⟨f.toNat, p.toNat, hf, hp, by omega, by omega, hx⟩
  · cases h

set_option maxRecDepth 100000 in
set_option maxHeartbeats 4000000 in
theorem insAt_hit (a1 a2 : Option Addr) (nt c1 c2 : Nat) (fs : List Fn) (f p : Nat) (w : World) (hc : ∀ f ∈ fs, f.code.length ≤ 1048576) (hm : FnsAt w 0 a2 fs) (hf : f < fs.length) (hp : p < fs[f].code.length) :
    Calls Tryz.prog 122 #[.agg #[.slice a1 nt c1, .slice a2 fs.length c2], .agg #[.int .i64 f, .int .i64 p]] w fun e w' => e = .returned (.tuple #[.agg #[.int .i64 fs[f].code[p].1, .int .i64 fs[f].code[p].2], .bool true]) ∧ Below w.heap.size w w' := by
  obtain ⟨b, off, ca, cc, rfl, -, d1, d2, d3, hcode⟩ := hm f hf
  have hcl := hc _ (List.getElem_mem hf)
  obtain ⟨b2, off2, rfl, -, e1, e2⟩ := hcode p hp
  clear hcode d1 d2
  obtain ⟨op, hop⟩ : ∃ op, op = fs[f].code[p].1 := ⟨_, rfl⟩
  obtain ⟨ar, har⟩ : ∃ ar, ar = fs[f].code[p].2 := ⟨_, rfl⟩
  rw [← hop] at e1 ⊢
  rw [← har] at e2 ⊢
  clear hop har
  obtain ⟨nc, hnc⟩ : ∃ nc, nc = fs[f].code.length := ⟨_, rfl⟩
  rw [← hnc] at d3 hp hcl
  clear hnc
  obtain ⟨nf, hnf⟩ : ∃ nf, nf = fs.length := ⟨_, rfl⟩
  rw [← hnf] at hf ⊢
  clear hnf hc hm
  obtain ⟨wA, hwA⟩ : ∃ wA, wA = ((w.alloc (.cells #[.slice a1 nt c1, .slice (some ⟨b, off, none⟩) nf c2] 40)).alloc (.cells #[.int .i64 f, .int .i64 p] 134)).alloc (.cells #[.int .i64 0, .int .i64 0] 152) := ⟨_, rfl⟩
  have hB : Below w.heap.size w wA := by rw [hwA]; exact (((Below.refl _ _).alloc (Nat.le_refl _) _).alloc (by simp) _).alloc (by simp; omega) _
  have hM : wA.heap[w.heap.size]? = some (.cells #[.slice a1 nt c1, .slice (some ⟨b, off, none⟩) nf c2] 40 (0, 0)) := by rw [hwA]; exact block_old (block_old (block_new _ _ _) _) _
  have hA : wA.heap[w.heap.size + 1]? = some (.cells #[.int .i64 f, .int .i64 p] 134 (0, 0)) := by rw [hwA]; exact block_old (by simpa using block_new (w.alloc (.cells #[.slice a1 nt c1, .slice (some ⟨b, off, none⟩) nf c2] 40)) #[.int .i64 f, .int .i64 p] 134) _
  have hR : wA.heap[w.heap.size + 1 + 1]? = some (.cells #[.int .i64 0, .int .i64 0] 152 (0, 0)) := by rw [hwA]; simpa using block_new ((w.alloc (.cells #[.slice a1 nt c1, .slice (some ⟨b, off, none⟩) nf c2] 40)).alloc (.cells #[.int .i64 f, .int .i64 p] 134)) #[.int .i64 0, .int .i64 0] 152
  have HS : Hid (∀ w', Below (w.heap.size + 2) wA w' → w'.cell? ⟨w.heap.size, 1, none⟩ = some (.slice (some ⟨b, off, none⟩) nf c2) ∧ w'.cell? ⟨w.heap.size + 1, 0, none⟩ = some (.int .i64 f) ∧ w'.cell? ⟨w.heap.size + 1, 1, none⟩ = some (.int .i64 p) ∧ w'.cell? ⟨b, off + f * 3 + 2, none⟩ = some (.slice (some ⟨b2, off2, none⟩) nc cc) ∧ w'.cell? ⟨b2, off2 + p * 2, none⟩ = some (.int .i64 op) ∧ w'.cell? ⟨b2, off2 + p * 2 + 1, none⟩ = some (.int .i64 ar)) := fun w' q => by
    have q2 : Below w.heap.size w w' := hB.trans (q.mono (by omega))
    exact ⟨by rw [q.cell (by simp), block_cell hM]; rfl, by rw [q.cell (by simp), block_cell hA]; rfl, by rw [q.cell (by simp), block_cell hA]; rfl, cell_later q2 d3, cell_later q2 e1, cell_later q2 e2⟩
  have q0 : Below (w.heap.size + 2) wA wA := Below.refl _ _
  go_enter Tryz.func122, Tryz.ntmps122
  go_upto_region 1 with fail
  rw [← hwA]
  clear hwA
  obtain ⟨j0, j1, j2, j3, j4, j5⟩ := HS.out wA q0
  have g1 : ¬ ((f : Int) < 0) := by omega
  have g2 : ¬ ((nf : Int) ≤ (f : Int)) := by omega
  have g3 : ¬ ((p : Int) < 0) := by omega
  have g4 : ¬ ((nc : Int) ≤ (p : Int)) := by omega
  go_big_quiet (fail)
  go_upto_region 3 with fail
  have q : Below (w.heap.size + 2) wA (wA.drewN nq).drew := (below_draws (Below.refl _ _) _).drew
  have z1 : wA.cell? ⟨w.heap.size + 1 + 1, 0, none⟩ = some (.int .i64 0) := block_cell hR 0
  have z1b : wA.cell? ⟨w.heap.size + 1 + 1, 1, none⟩ = some (.int .i64 0) := block_cell hR 1
  have z2 := block_free hR 0
  have z3 := block_free hR 1
  go_region_held3 (fun w' => w'.cell? ⟨w.heap.size, 1, none⟩ = some (.slice (some ⟨b, off, none⟩) nf c2) ∧ w'.cell? ⟨w.heap.size + 1, 0, none⟩ = some (.int .i64 f) ∧ w'.cell? ⟨w.heap.size + 1, 1, none⟩ = some (.int .i64 p) ∧ w'.cell? ⟨b, off + f * 3 + 2, none⟩ = some (.slice (some ⟨b2, off2, none⟩) nc cc) ∧ w'.cell? ⟨b2, off2 + p * 2, none⟩ = some (.int .i64 op) ∧ w'.cell? ⟨b2, off2 + p * 2 + 1, none⟩ = some (.int .i64 ar))
    (first | exact HS.out _ (below_draws (Below.refl _ _) _) | exact HS.out _ (below_draws (Below.refl _ _) _).drew | (refine HS.out _ ?_; repeat (first | refine Below.setCell ?_ (by first | omega | (simp; omega) | simp) _ | refine Below.drew ?_ | exact below_draws (Below.refl _ _) _)))
    (fail)
  have hR2 : (((wA.drewN (nq + 1)).setCell ⟨w.heap.size + 1 + 1, 0, none⟩ (.int .i64 op)).setCell ⟨w.heap.size + 1 + 1, 1, none⟩ (.int .i64 ar)).heap[w.heap.size + 1 + 1]? = some (.cells #[.int .i64 op, .int .i64 ar] 152 (0, 0)) := by
    have h1 := block_set (i := 0) (block_kept hR (below_draws (Below.refl _ _) (nq + 1))) (.int .i64 op)
    have h2 := block_set (i := 1) h1 (.int .i64 ar)
    simpa using h2
  have r1 := block_cell hR2
  clear z1 z1b z2 z3 hR2
  go_wp2
  refine bodyPost_ret (v := .tuple #[.agg #[.int .i64 op, .int .i64 ar], .bool true]) (by simp [results, Tryz.results122, go_sem, r1]) rfl ⟨rfl, ?_⟩
  exact ((below_draws hB _).setCell (by simp; omega) _).setCell (by simp; omega) _

set_option maxRecDepth 100000 in
set_option maxHeartbeats 4000000 in
theorem insAt_miss (a1 a2 : Option Addr) (nt c1 c2 : Nat) (fs : List Fn) (f p : Int) (w : World) (hc : ∀ f ∈ fs, f.code.length ≤ 1048576) (hm : FnsAt w 0 a2 fs) (hno : insD fs f p = none) :
    Calls Tryz.prog 122 #[.agg #[.slice a1 nt c1, .slice a2 fs.length c2], .agg #[.int .i64 f, .int .i64 p]] w fun e w' => e = .returned (.tuple #[.agg #[.int .i64 0, .int .i64 0], .bool false]) ∧ Below w.heap.size w w' := by
  obtain ⟨nf, hnf⟩ : ∃ nf, nf = fs.length := ⟨_, rfl⟩
  obtain ⟨wA, hwA⟩ : ∃ wA, wA = ((w.alloc (.cells #[.slice a1 nt c1, .slice a2 nf c2] 40)).alloc (.cells #[.int .i64 f, .int .i64 p] 134)).alloc (.cells #[.int .i64 0, .int .i64 0] 152) := ⟨_, rfl⟩
  have hB : Below w.heap.size w wA := by rw [hwA]; exact (((Below.refl _ _).alloc (Nat.le_refl _) _).alloc (by simp) _).alloc (by simp; omega) _
  have hM : wA.heap[w.heap.size]? = some (.cells #[.slice a1 nt c1, .slice a2 nf c2] 40 (0, 0)) := by rw [hwA]; exact block_old (block_old (block_new _ _ _) _) _
  have hA : wA.heap[w.heap.size + 1]? = some (.cells #[.int .i64 f, .int .i64 p] 134 (0, 0)) := by rw [hwA]; exact block_old (by simpa using block_new (w.alloc (.cells #[.slice a1 nt c1, .slice a2 nf c2] 40)) #[.int .i64 f, .int .i64 p] 134) _
  have hR : wA.heap[w.heap.size + 1 + 1]? = some (.cells #[.int .i64 0, .int .i64 0] 152 (0, 0)) := by rw [hwA]; simpa using block_new ((w.alloc (.cells #[.slice a1 nt c1, .slice a2 nf c2] 40)).alloc (.cells #[.int .i64 f, .int .i64 p] 134)) #[.int .i64 0, .int .i64 0] 152
  have j0 := block_cell hM
  have j1 := block_cell hA
  have z1 := block_cell hR
  have z2 := block_free hR
  have HN : Hid (0 ≤ f → 0 ≤ p → ∀ (hf : f.toNat < fs.length), ¬ p.toNat < fs[f.toNat].code.length) := by
    show _ → _
    intro h0 h1 hf hp
    have := insD_hit hf hp
    rw [show ((f.toNat : Nat) : Int) = f by omega, show ((p.toNat : Nat) : Int) = p by omega, hno] at this
    cases this
  clear hno
  rw [← hnf]
  have HNF : Hid (nf = fs.length) := hnf
  clear hnf
  by_cases h1 : f < 0
  · clear hc hm hM hA hR
    go_enter Tryz.func122, Tryz.ntmps122
    go_upto_region 1 with fail
    rw [← hwA]
    clear hwA
    go_big_quiet (fail)
    go_wp2
    refine bodyPost_ret (v := .tuple #[.agg #[.int .i64 0, .int .i64 0], .bool false]) (by simp [results, Tryz.results122, go_sem, z1]) rfl ⟨rfl, ?_⟩
    exact ((below_draws hB _).setCell (by simp; omega) _).setCell (by simp; omega) _
  obtain ⟨f, rfl⟩ : ∃ f' : Nat, f = f' := ⟨f.toNat, by omega⟩
  by_cases h2 : f < nf
  case neg =>
    clear hc hm hM hA hR
    go_enter Tryz.func122, Tryz.ntmps122
    go_upto_region 1 with fail
    rw [← hwA]
    clear hwA
    have g1 : ¬ ((f : Int) < 0) := by omega
    have g2 : (nf : Int) ≤ (f : Int) := by omega
    go_big_quiet (fail)
    go_wp2
    refine bodyPost_ret (v := .tuple #[.agg #[.int .i64 0, .int .i64 0], .bool false]) (by simp [results, Tryz.results122, go_sem, z1]) rfl ⟨rfl, ?_⟩
    exact ((below_draws hB _).setCell (by simp; omega) _).setCell (by simp; omega) _
  by_cases h3 : p < 0
  · clear hc hm hM hA hR
    go_enter Tryz.func122, Tryz.ntmps122
    go_upto_region 1 with fail
    rw [← hwA]
    clear hwA
    have g1 : ¬ ((f : Int) < 0) := by omega
    have g2 : ¬ (nf : Int) ≤ (f : Int) := by omega
    go_big_quiet (fail)
    go_wp2
    refine bodyPost_ret (v := .tuple #[.agg #[.int .i64 0, .int .i64 0], .bool false]) (by simp [results, Tryz.results122, go_sem, z1]) rfl ⟨rfl, ?_⟩
    exact ((below_draws hB _).setCell (by simp; omega) _).setCell (by simp; omega) _
  obtain ⟨p, rfl⟩ : ∃ p' : Nat, p = p' := ⟨p.toNat, by omega⟩
  have h2' : f < fs.length := by rw [← HNF.out]; exact h2
  have h4 := HN.out (by omega) (by omega) (by simpa using h2')
  simp only [Int.toNat_natCast] at h4
  obtain ⟨b, off, ca, cc, rfl, -, d1, d2, d3, hcode⟩ := hm f h2'
  have hcl := hc _ (List.getElem_mem h2')
  have d3' := cell_later hB d3
  clear d1 d2 d3 hcode hc hm hM hA hR HN
  obtain ⟨nc, hnc⟩ : ∃ nc, nc = fs[f].code.length := ⟨_, rfl⟩
  rw [← hnc] at d3' h4 hcl
  clear hnc
  go_enter Tryz.func122, Tryz.ntmps122
  go_upto_region 1 with fail
  rw [← hwA]
  clear hwA
  have g1 : ¬ ((f : Int) < 0) := by omega
  have g2 : ¬ (nf : Int) ≤ (f : Int) := by omega
  have g3 : ¬ ((p : Int) < 0) := by omega
  have g4 : (nc : Int) ≤ (p : Int) := by omega
  go_big_quiet (fail)
  go_wp2
  refine bodyPost_ret (v := .tuple #[.agg #[.int .i64 0, .int .i64 0], .bool false]) (by simp [results, Tryz.results122, go_sem, z1]) rfl ⟨rfl, ?_⟩
  exact ((below_draws hB _).setCell (by simp; omega) _).setCell (by simp; omega) _
/-- insAt, whatever the place. -/
theorem insAt_any (a1 a2 : Option Addr) (nt c1 c2 : Nat) (fs : List Fn) (f p : Int) (w : World) (hc : ∀ f ∈ fs, f.code.length ≤ 1048576) (hm : FnsAt w 0 a2 fs) :
    Calls Tryz.prog 122 #[.agg #[.slice a1 nt c1, .slice a2 fs.length c2], .agg #[.int .i64 f, .int .i64 p]] w fun e w' => e = .returned (.tuple #[.agg #[.int .i64 ((insD fs f p).getD (0, 0)).1, .int .i64 ((insD fs f p).getD (0, 0)).2], .bool (insD fs f p).isSome]) ∧ Below w.heap.size w w' := by
  cases h : insD fs f p with
  | none => exact insAt_miss a1 a2 nt c1 c2 fs f p w hc hm h
  | some x =>
    obtain ⟨f', p', hf, hp, rfl, rfl, rfl⟩ := insD_some h
    exact insAt_hit a1 a2 nt c1 c2 fs f' p' w hc hm hf hp
end Go.Proofs.YtlohoolimejihaaGreat
