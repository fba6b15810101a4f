/-
  insAt: the instruction at a place of a module.
  siteOk: whether a site may have been watched in runs of a module.
  A drawn region whose operations read, and whose callees may make new memory besides, is walked once, in the order of the text.
  ascending, of sites and of guesses: each is ahead of the next.
  sitesOk: each site of a list may have been watched, and each is ahead of the next.
  Guesses and plans: what the laws' sizing, copying and comparing functions return of them (a guess has four numbers, as a site has).
-/
import Derived.Test.YtcbknjjnphknbaaGreatDoorZOQ4
import Derived.Deep.CutRange
import Derived.Test.YtcbknjjnphknbaaGreatDoorZOQ2
import Derived.Deep.Quiet
import Derived.Test.YtcbknjjnphknbaaGreatDoorZOQ3
namespace Go.Proofs.YtcbknjjnphknbaaGreatDoor
open Go.RowKit

/-- The instruction at a place, if there is one. -/
def insD (fs : List Fn) (f p : Int) : Option (Int × Int) := if 0 ≤ f ∧ 0 ≤ p then (fs[f.toNat]?).bind (fun g => g.code[p.toNat]?) else none
theorem insD_hit {fs : List Fn} {f p : Nat} (hf : f < fs.length) (hp : p < fs[f].code.length) : insD fs f p = some fs[f].code[p] := by
  unfold insD
  rw [if_pos ⟨Int.natCast_nonneg _, Int.natCast_nonneg _⟩]
  simp [hf, hp]
theorem insD_some {fs : List Fn} {f p : Int} {x : Int × Int} (h : insD fs f p = some x) : ∃ (f' p' : Nat) (hf : f' < fs.length) (hp : p' < fs[f'].code.length), f = f' ∧ p = p' ∧ fs[f'].code[p'] = x := by
  unfold insD at h
  split at h
  · rename_i h0
    obtain ⟨g, hg, hx⟩ := Option.bind_eq_some_iff.1 h
    obtain ⟨hf, rfl⟩ := List.getElem?_eq_some_iff.1 hg
    obtain ⟨hp, hx⟩ := List.getElem?_eq_some_iff.1 hx
    exact ⟨f.toNat, p.toNat, hf, hp, by omega, by omega, hx⟩
  · cases h

set_option maxRecDepth 100000 in
set_option maxHeartbeats 4000000 in
theorem insAt_hit (a1 a2 : Option Addr) (nt c1 c2 : Nat) (fs : List Fn) (f p : Nat) (w : World) (hc : ∀ f ∈ fs, f.code.length ≤ 1048576) (hm : FnsAt w 0 a2 fs) (hf : f < fs.length) (hp : p < fs[f].code.length) :
    Calls Tryz.prog 93 #[.agg #[.slice a1 nt c1, .slice a2 fs.length c2], .agg #[.int .i64 f, .int .i64 p]] w fun e w' => e = .returned (.tuple #[.agg #[.int .i64 fs[f].code[p].1, .int .i64 fs[f].code[p].2], .bool true]) ∧ Below w.heap.size w w' := by
  obtain ⟨b, off, ca, cc, rfl, -, d1, d2, d3, hcode⟩ := hm f hf
  have hcl := hc _ (List.getElem_mem hf)
  obtain ⟨b2, off2, rfl, -, e1, e2⟩ := hcode p hp
  clear hcode d1 d2
  obtain ⟨op, hop⟩ : ∃ op, op = fs[f].code[p].1 := ⟨_, rfl⟩
  obtain ⟨ar, har⟩ : ∃ ar, ar = fs[f].code[p].2 := ⟨_, rfl⟩
  rw [← hop] at e1 ⊢
  rw [← har] at e2 ⊢
  clear hop har
  obtain ⟨nc, hnc⟩ : ∃ nc, nc = fs[f].code.length := ⟨_, rfl⟩
  rw [← hnc] at d3 hp hcl
  clear hnc
  obtain ⟨nf, hnf⟩ : ∃ nf, nf = fs.length := ⟨_, rfl⟩
  rw [← hnf] at hf ⊢
  clear hnf hc hm
  obtain ⟨wA, hwA⟩ : ∃ wA, wA = ((w.alloc (.cells #[.slice a1 nt c1, .slice (some ⟨b, off, none⟩) nf c2] 35)).alloc (.cells #[.int .i64 f, .int .i64 p] 173)).alloc (.cells #[.int .i64 0, .int .i64 0] 135) := ⟨_, rfl⟩
  have hB : Below w.heap.size w wA := by rw [hwA]; exact (((Below.refl _ _).alloc (Nat.le_refl _) _).alloc (by simp) _).alloc (by simp; omega) _
  have hM : wA.heap[w.heap.size]? = some (.cells #[.slice a1 nt c1, .slice (some ⟨b, off, none⟩) nf c2] 35 (0, 0)) := by rw [hwA]; exact block_old (block_old (block_new _ _ _) _) _
  have hA : wA.heap[w.heap.size + 1]? = some (.cells #[.int .i64 f, .int .i64 p] 173 (0, 0)) := by rw [hwA]; exact block_old (by simpa using block_new (w.alloc (.cells #[.slice a1 nt c1, .slice (some ⟨b, off, none⟩) nf c2] 35)) #[.int .i64 f, .int .i64 p] 173) _
  have hR : wA.heap[w.heap.size + 1 + 1]? = some (.cells #[.int .i64 0, .int .i64 0] 135 (0, 0)) := by rw [hwA]; simpa using block_new ((w.alloc (.cells #[.slice a1 nt c1, .slice (some ⟨b, off, none⟩) nf c2] 35)).alloc (.cells #[.int .i64 f, .int .i64 p] 173)) #[.int .i64 0, .int .i64 0] 135
  have HS : Hid (∀ w', Below (w.heap.size + 2) wA w' → w'.cell? ⟨w.heap.size, 1, none⟩ = some (.slice (some ⟨b, off, none⟩) nf c2) ∧ w'.cell? ⟨w.heap.size + 1, 0, none⟩ = some (.int .i64 f) ∧ w'.cell? ⟨w.heap.size + 1, 1, none⟩ = some (.int .i64 p) ∧ w'.cell? ⟨b, off + f * 3 + 2, none⟩ = some (.slice (some ⟨b2, off2, none⟩) nc cc) ∧ w'.cell? ⟨b2, off2 + p * 2, none⟩ = some (.int .i64 op) ∧ w'.cell? ⟨b2, off2 + p * 2 + 1, none⟩ = some (.int .i64 ar)) := fun w' q => by
    have q2 : Below w.heap.size w w' := hB.trans (q.mono (by omega))
    exact ⟨by rw [q.cell (by simp), block_cell hM]; rfl, by rw [q.cell (by simp), block_cell hA]; rfl, by rw [q.cell (by simp), block_cell hA]; rfl, cell_later q2 d3, cell_later q2 e1, cell_later q2 e2⟩
  have q0 : Below (w.heap.size + 2) wA wA := Below.refl _ _
  go_enter Tryz.func93, Tryz.ntmps93
  go_upto_region 1 with fail
  rw [← hwA]
  clear hwA
  obtain ⟨j0, j1, j2, j3, j4, j5⟩ := HS.out wA q0
  have g1 : ¬ ((f : Int) < 0) := by omega
  have g2 : ¬ ((nf : Int) ≤ (f : Int)) := by omega
  have g3 : ¬ ((p : Int) < 0) := by omega
  have g4 : ¬ ((nc : Int) ≤ (p : Int)) := by omega
  go_big_quiet (fail)
  go_upto_region 3 with fail
  have q : Below (w.heap.size + 2) wA (wA.drewN nq).drew := (below_draws (Below.refl _ _) _).drew
  have z1 : wA.cell? ⟨w.heap.size + 1 + 1, 0, none⟩ = some (.int .i64 0) := block_cell hR 0
  have z1b : wA.cell? ⟨w.heap.size + 1 + 1, 1, none⟩ = some (.int .i64 0) := block_cell hR 1
  have z2 := block_free hR 0
  have z3 := block_free hR 1
  go_region_held3 (fun w' => w'.cell? ⟨w.heap.size, 1, none⟩ = some (.slice (some ⟨b, off, none⟩) nf c2) ∧ w'.cell? ⟨w.heap.size + 1, 0, none⟩ = some (.int .i64 f) ∧ w'.cell? ⟨w.heap.size + 1, 1, none⟩ = some (.int .i64 p) ∧ w'.cell? ⟨b, off + f * 3 + 2, none⟩ = some (.slice (some ⟨b2, off2, none⟩) nc cc) ∧ w'.cell? ⟨b2, off2 + p * 2, none⟩ = some (.int .i64 op) ∧ w'.cell? ⟨b2, off2 + p * 2 + 1, none⟩ = some (.int .i64 ar))
    (first | exact HS.out _ (below_draws (Below.refl _ _) _) | exact HS.out _ (below_draws (Below.refl _ _) _).drew | (refine HS.out _ ?_; repeat (first | refine Below.setCell ?_ (by first | omega | (simp; omega) | simp) _ | refine Below.drew ?_ | exact below_draws (Below.refl _ _) _)))
    (fail)
  have hR2 : (((wA.drewN (nq + 1)).setCell ⟨w.heap.size + 1 + 1, 0, none⟩ (.int .i64 op)).setCell ⟨w.heap.size + 1 + 1, 1, none⟩ (.int .i64 ar)).heap[w.heap.size + 1 + 1]? = some (.cells #[.int .i64 op, .int .i64 ar] 135 (0, 0)) := by
    have h1 := block_set (i := 0) (block_kept hR (below_draws (Below.refl _ _) (nq + 1))) (.int .i64 op)
    have h2 := block_set (i := 1) h1 (.int .i64 ar)
    simpa using h2
  have r1 := block_cell hR2
  clear z1 z1b z2 z3 hR2
  go_wp2
  refine bodyPost_ret (v := .tuple #[.agg #[.int .i64 op, .int .i64 ar], .bool true]) (by simp [results, Tryz.results93, go_sem, r1]) rfl ⟨rfl, ?_⟩
  exact ((below_draws hB _).setCell (by simp; omega) _).setCell (by simp; omega) _

set_option maxRecDepth 100000 in
set_option maxHeartbeats 4000000 in
theorem insAt_miss (a1 a2 : Option Addr) (nt c1 c2 : Nat) (fs : List Fn) (f p : Int) (w : World) (hc : ∀ f ∈ fs, f.code.length ≤ 1048576) (hm : FnsAt w 0 a2 fs) (hno : insD fs f p = none) :
    Calls Tryz.prog 93 #[.agg #[.slice a1 nt c1, .slice a2 fs.length c2], .agg #[.int .i64 f, .int .i64 p]] w fun e w' => e = .returned (.tuple #[.agg #[.int .i64 0, .int .i64 0], .bool false]) ∧ Below w.heap.size w w' := by
  obtain ⟨nf, hnf⟩ : ∃ nf, nf = fs.length := ⟨_, rfl⟩
  obtain ⟨wA, hwA⟩ : ∃ wA, wA = ((w.alloc (.cells #[.slice a1 nt c1, .slice a2 nf c2] 35)).alloc (.cells #[.int .i64 f, .int .i64 p] 173)).alloc (.cells #[.int .i64 0, .int .i64 0] 135) := ⟨_, rfl⟩
  have hB : Below w.heap.size w wA := by rw [hwA]; exact (((Below.refl _ _).alloc (Nat.le_refl _) _).alloc (by simp) _).alloc (by simp; omega) _
  have hM : wA.heap[w.heap.size]? = some (.cells #[.slice a1 nt c1, .slice a2 nf c2] 35 (0, 0)) := by rw [hwA]; exact block_old (block_old (block_new _ _ _) _) _
  have hA : wA.heap[w.heap.size + 1]? = some (.cells #[.int .i64 f, .int .i64 p] 173 (0, 0)) := by rw [hwA]; exact block_old (by simpa using block_new (w.alloc (.cells #[.slice a1 nt c1, .slice a2 nf c2] 35)) #[.int .i64 f, .int .i64 p] 173) _
  have hR : wA.heap[w.heap.size + 1 + 1]? = some (.cells #[.int .i64 0, .int .i64 0] 135 (0, 0)) := by rw [hwA]; simpa using block_new ((w.alloc (.cells #[.slice a1 nt c1, .slice a2 nf c2] 35)).alloc (.cells #[.int .i64 f, .int .i64 p] 173)) #[.int .i64 0, .int .i64 0] 135
  have j0 := block_cell hM
  have j1 := block_cell hA
  have z1 := block_cell hR
  have z2 := block_free hR
  have HN : Hid (0 ≤ f → 0 ≤ p → ∀ (hf : f.toNat < fs.length), ¬ p.toNat < fs[f.toNat].code.length) := by
    show _ → _
    intro h0 h1 hf hp
    have := insD_hit hf hp
    rw [show ((f.toNat : Nat) : Int) = f by omega, show ((p.toNat : Nat) : Int) = p by omega, hno] at this
    cases this
  clear hno
  rw [← hnf]
  have HNF : Hid (nf = fs.length) := hnf
  clear hnf
  by_cases h1 : f < 0
  · clear hc hm hM hA hR
    go_enter Tryz.func93, Tryz.ntmps93
    go_upto_region 1 with fail
    rw [← hwA]
    clear hwA
    go_big_quiet (fail)
    go_wp2
    refine bodyPost_ret (v := .tuple #[.agg #[.int .i64 0, .int .i64 0], .bool false]) (by simp [results, Tryz.results93, go_sem, z1]) rfl ⟨rfl, ?_⟩
    exact ((below_draws hB _).setCell (by simp; omega) _).setCell (by simp; omega) _
  obtain ⟨f, rfl⟩ : ∃ f' : Nat, f = f' := ⟨f.toNat, by omega⟩
  by_cases h2 : f < nf
  case neg =>
    clear hc hm hM hA hR
    go_enter Tryz.func93, Tryz.ntmps93
    go_upto_region 1 with fail
    rw [← hwA]
    clear hwA
    have g1 : ¬ ((f : Int) < 0) := by omega
    have g2 : (nf : Int) ≤ (f : Int) := by omega
    go_big_quiet (fail)
    go_wp2
    refine bodyPost_ret (v := .tuple #[.agg #[.int .i64 0, .int .i64 0], .bool false]) (by simp [results, Tryz.results93, go_sem, z1]) rfl ⟨rfl, ?_⟩
    exact ((below_draws hB _).setCell (by simp; omega) _).setCell (by simp; omega) _
  by_cases h3 : p < 0
  · clear hc hm hM hA hR
    go_enter Tryz.func93, Tryz.ntmps93
    go_upto_region 1 with fail
    rw [← hwA]
    clear hwA
    have g1 : ¬ ((f : Int) < 0) := by omega
    have g2 : ¬ (nf : Int) ≤ (f : Int) := by omega
    go_big_quiet (fail)
    go_wp2
    refine bodyPost_ret (v := .tuple #[.agg #[.int .i64 0, .int .i64 0], .bool false]) (by simp [results, Tryz.results93, go_sem, z1]) rfl ⟨rfl, ?_⟩
    exact ((below_draws hB _).setCell (by simp; omega) _).setCell (by simp; omega) _
  obtain ⟨p, rfl⟩ : ∃ p' : Nat, p = p' := ⟨p.toNat, by omega⟩
  have h2' : f < fs.length := by rw [← HNF.out]; exact h2
  have h4 := HN.out (by omega) (by omega) (by simpa using h2')
  simp only [Int.toNat_natCast] at h4
  obtain ⟨b, off, ca, cc, rfl, -, d1, d2, d3, hcode⟩ := hm f h2'
  have hcl := hc _ (List.getElem_mem h2')
  have d3' := cell_later hB d3
  clear d1 d2 d3 hcode hc hm hM hA hR HN
  obtain ⟨nc, hnc⟩ : ∃ nc, nc = fs[f].code.length := ⟨_, rfl⟩
  rw [← hnc] at d3' h4 hcl
  clear hnc
  go_enter Tryz.func93, Tryz.ntmps93
  go_upto_region 1 with fail
  rw [← hwA]
  clear hwA
  have g1 : ¬ ((f : Int) < 0) := by omega
  have g2 : ¬ (nf : Int) ≤ (f : Int) := by omega
  have g3 : ¬ ((p : Int) < 0) := by omega
  have g4 : (nc : Int) ≤ (p : Int) := by omega
  go_big_quiet (fail)
  go_wp2
  refine bodyPost_ret (v := .tuple #[.agg #[.int .i64 0, .int .i64 0], .bool false]) (by simp [results, Tryz.results93, go_sem, z1]) rfl ⟨rfl, ?_⟩
  exact ((below_draws hB _).setCell (by simp; omega) _).setCell (by simp; omega) _
/-- insAt, whatever the place. -/
theorem insAt_any (a1 a2 : Option Addr) (nt c1 c2 : Nat) (fs : List Fn) (f p : Int) (w : World) (hc : ∀ f ∈ fs, f.code.length ≤ 1048576) (hm : FnsAt w 0 a2 fs) :
    Calls Tryz.prog 93 #[.agg #[.slice a1 nt c1, .slice a2 fs.length c2], .agg #[.int .i64 f, .int .i64 p]] w fun e w' => e = .returned (.tuple #[.agg #[.int .i64 ((insD fs f p).getD (0, 0)).1, .int .i64 ((insD fs f p).getD (0, 0)).2], .bool (insD fs f p).isSome]) ∧ Below w.heap.size w w' := by
  cases h : insD fs f p with
  | none => exact insAt_miss a1 a2 nt c1 c2 fs f p w hc hm h
  | some x =>
    obtain ⟨f', p', hf, hp, rfl, rfl, rfl⟩ := insD_some h
    exact insAt_hit a1 a2 nt c1 c2 fs f' p' w hc hm hf hp
end Go.Proofs.YtcbknjjnphknbaaGreatDoor

namespace Go.Proofs.YtcbknjjnphknbaaGreatDoor
open Go.RowKit

section
open Classical
/-- A truth as a bool. -/
noncomputable def pB (P : Prop) : Bool := decide P
theorem pB_yes {P : Prop} (h : P) : pB P = true := by simpa [pB] using h
theorem pB_no {P : Prop} (h : ¬ P) : pB P = false := by simpa [pB] using h
end

/-- What may be seen at an instruction. -/
def OpP (n : Nat) (op seen target : Int) : Prop := (op = 23 ∧ ((seen = 1 ∧ 0 ≤ target ∧ target < n) ∨ (seen = 2 ∧ target = 0))) ∨ (11 ≤ op ∧ op ≤ 14 ∧ 1 ≤ seen ∧ seen ≤ 3 ∧ target = 0)
/-- The site is at one of the module's instructions, and tells what may be seen there. -/
def SiteP (fs : List Fn) (s : Si) : Prop := 0 ≤ s.f ∧ 0 ≤ s.pc ∧ ∃ (hf : s.f.toNat < fs.length) (hp : s.pc.toNat < fs[s.f.toNat].code.length), OpP fs.length (fs[s.f.toNat].code[s.pc.toNat].1) s.seen s.target

theorem site_iff {fs : List Fn} {f p : Nat} {sn tg : Int} (hf : f < fs.length) (hp : p < fs[f].code.length) : SiteP fs ⟨f, p, sn, tg⟩ ↔ OpP fs.length (fs[f].code[p].1) sn tg :=
  ⟨fun h => h.2.2.2.2, fun h => ⟨Int.natCast_nonneg _, Int.natCast_nonneg _, hf, hp, h⟩⟩

theorem numberOp_yes {op : Int} (h : 11 ≤ op ∧ op ≤ 14) (w : World) : Calls Tryz.prog 153 #[.int .i64 op] w fun e w' => e = .returned (.bool true) ∧ w' = w := by
  have := numberOp_any op w
  rwa [decide_eq_true h] at this
theorem numberOp_no {op : Int} (h : ¬ (11 ≤ op ∧ op ≤ 14)) (w : World) : Calls Tryz.prog 153 #[.int .i64 op] w fun e w' => e = .returned (.bool false) ∧ w' = w := by
  have := numberOp_any op w
  rwa [decide_eq_false h] at this


theorem block_new_drew (w : World) (C : Array Value) (t : TypeId) : (w.alloc (.cells C t)).drew.heap[w.heap.size]? = some (.cells C t (0, 0)) := block_kept (block_new w C t) (Below.refl _ _).drew
theorem stored2 {w : World} {g : Nat} {a b x y : Value} {t : TypeId} (h : w.heap[g]? = some (.cells #[a, b] t (0, 0))) : ((w.setCell ⟨g, 0, none⟩ x).setCell ⟨g, 1, none⟩ y).heap[g]? = some (.cells #[x, y] t (0, 0)) := by
  simpa using block_set (i := 1) (block_set (i := 0) h x) y
theorem stored4 {w : World} {g : Nat} {a b c d x y z u : Value} {t : TypeId} (h : w.heap[g]? = some (.cells #[a, b, c, d] t (0, 0))) : ((((w.setCell ⟨g, 0, none⟩ x).setCell ⟨g, 1, none⟩ y).setCell ⟨g, 2, none⟩ z).setCell ⟨g, 3, none⟩ u).heap[g]? = some (.cells #[x, y, z, u] t (0, 0)) := by
  simpa using block_set (i := 3) (block_set (i := 2) (block_set (i := 1) (block_set (i := 0) h x) y) z) u
theorem site_ins (fs : List Fn) (s : Si) : SiteP fs s ↔ (insD fs s.f s.pc).isSome = true ∧ OpP fs.length ((insD fs s.f s.pc).getD (0, 0)).1 s.seen s.target := by
  constructor
  · rintro ⟨h0, h1, hf, hp, hop⟩
    have := insD_hit hf hp
    rw [show ((s.f.toNat : Nat) : Int) = s.f by omega, show ((s.pc.toNat : Nat) : Int) = s.pc by omega] at this
    rw [this]
    exact ⟨rfl, hop⟩
  · rintro ⟨h0, h1⟩
    obtain ⟨x, hx⟩ := Option.isSome_iff_exists.1 h0
    rw [hx] at h1
    obtain ⟨f, p, hf, hp, ef, ep, rfl⟩ := insD_some hx
    refine ⟨by omega, by omega, by rw [ef]; exact hf, by simp only [ef, ep, Int.toNat_natCast]; exact hp, ?_⟩
    simp only [ef, ep, Int.toNat_natCast]
    exact h1

end Go.Proofs.YtcbknjjnphknbaaGreatDoor

namespace Go.Proofs.YtcbknjjnphknbaaGreatDoor
open Go.RowKit

section
variable {P : Program} {ops : Array Oper} {C : World → Prop} {Q : Act → Prop} {a : Act} {o : Oper} {rest : List Oper}
theorem q_skip (hw : Region.wanted o (yielded ops a.tmps) = false) (h : wpQuiet P ops C Q rest (a.put o.dst undef)) : wpQuiet P ops C Q (o :: rest) a := by
  unfold wpQuiet
  rw [if_neg (by rw [hw]; exact Bool.false_ne_true)]
  exact h
theorem q_want {v : Value} (hw : Region.wanted o (yielded ops a.tmps) = true) (hv : ∀ w, C w → Oper.quietUpon P C w v ((execOp a.eval o).run P w)) (h : wpQuiet P ops C Q rest (a.put o.dst v)) : wpQuiet P ops C Q (o :: rest) a := by
  unfold wpQuiet
  rw [if_pos hw]
  exact ⟨v, hv, h⟩
end
theorem wp_below {P : Program} {id : Nat} {Q : Exit → Act → World → Prop} {a : Act} {w : World} {l : List Oper} (hm : P.follows .mixedOrders = true) (hB : Region.lexB .any l.toArray = true)
    (h : wpQuiet P l.toArray (fun w' => Below w.heap.size w w') (fun a' => ∀ w', Below w.heap.size w w' → Q .normal a' w') l a) : (Code.region id l.toArray true).wp P Q a w :=
  wp_region_quiet (C := fun w' => Below w.heap.size w w') hm hB (Below.refl _ _).drew (by simpa using h)
end Go.Proofs.YtcbknjjnphknbaaGreatDoor

namespace Go.Proofs.YtcbknjjnphknbaaGreatDoor
open Go.RowKit

/-- Each is ahead of the next. -/
def AscI (ss : List Si) : Prop := ∀ i (h : i < ss.length), 0 < i → SiteLess ss[i - 1] ss[i]

set_option maxHeartbeats 400000 in
theorem guessed_any (f p s t : Int) (w : World) :
    Calls Tryz.prog 144 #[.agg #[.int .i64 f, .int .i64 p, .int .i64 s, .int .i64 t]] w fun e w' => e = .returned (.agg #[.int .i64 f, .int .i64 p]) ∧ Below w.heap.size w w' := by
  go_enter Tryz.func144, Tryz.ntmps144
  go_wp2
  refine bodyPost_ret (v := .agg #[.int .i64 f, .int .i64 p]) (by simp [results, Tryz.results144, go_sem]) rfl ⟨rfl, ?_⟩
  repeat (first | refine Below.setCell ?_ (by first | omega | (simp; omega) | simp) _ | refine Below.alloc ?_ (by first | omega | (simp; omega) | simp) _ | exact Below.refl _ _)

set_option maxRecDepth 100000 in
set_option maxHeartbeats 2000000 in
theorem ascSpecs_any (a : Option Addr) (ss : List Si) (cap : Nat) (w : World) (hn : ss.length ≤ 1048576) (hs : SitesAt w 0 a ss) :
    Calls Tryz.prog 145 #[.slice a ss.length cap, .func (.func 144) #[] #[]] w fun e w' => e = .returned (.bool (pB (AscI ss))) ∧ Below w.heap.size w w' := by
  go_enter Tryz.func145, Tryz.ntmps145
  go_wp2
  go_loopw [5] (fun i wr => ∃ (k : Nat), 1 ≤ k ∧ (k ≤ ss.length ∨ k = 1) ∧ i = .int .i64 k ∧ Hid (∀ j (hj : j < ss.length), j < k → 0 < j → SiteLess ss[j - 1] ss[j]) ∧ Below w.heap.size w wr) (fun i _ => ss.length + 1 - (intOf i).toNat)
  case atStart => exact ⟨1, by omega, by omega, rfl, fun j _ h1 h2 => absurd h1 (by omega), Below.refl _ _⟩
  case round =>
    obtain ⟨k, hk1, hk, rfl, hdone, hb⟩ := hrel
    by_cases hlt : k < ss.length
    case neg =>
      have HD : Hid (AscI ss) := fun j hj h0 => hdone.out j hj (by omega) h0
      clear hdone
      go_wp2
      go_ret
      exact ⟨ret_bool (pB_yes HD.out).symm, hb⟩
    case pos =>
      obtain ⟨j, rfl⟩ : ∃ j, k = j + 1 := ⟨k - 1, by omega⟩
      have hj1 : j < ss.length := by omega
      obtain ⟨b, off, rfl, -, d1, d2, d3, d4⟩ := hs (j + 1) hlt
      obtain ⟨b', off', hbe, -, e1, e2, e3, e4⟩ := hs j hj1
      cases hbe
      have HF : Hid (∀ w', Below wr.heap.size wr w' → w'.cell? ⟨b, off + (j + 1) * 4, none⟩ = some (.int .i64 ss[j + 1].f) ∧ w'.cell? ⟨b, off + (j + 1) * 4 + 1, none⟩ = some (.int .i64 ss[j + 1].pc) ∧ w'.cell? ⟨b, off + (j + 1) * 4 + 2, none⟩ = some (.int .i64 ss[j + 1].seen) ∧ w'.cell? ⟨b, off + (j + 1) * 4 + 3, none⟩ = some (.int .i64 ss[j + 1].target)) := fun w' q =>
        ⟨cell_later q (cell_later hb d1), cell_later q (cell_later hb d2), cell_later q (cell_later hb d3), cell_later q (cell_later hb d4)⟩
      have HE : Hid (∀ w', Below wr.heap.size wr w' → w'.cell? ⟨b, off + j * 4, none⟩ = some (.int .i64 ss[j].f) ∧ w'.cell? ⟨b, off + j * 4 + 1, none⟩ = some (.int .i64 ss[j].pc) ∧ w'.cell? ⟨b, off + j * 4 + 2, none⟩ = some (.int .i64 ss[j].seen) ∧ w'.cell? ⟨b, off + j * 4 + 3, none⟩ = some (.int .i64 ss[j].target)) := fun w' q =>
        ⟨cell_later q (cell_later hb e1), cell_later q (cell_later hb e2), cell_later q (cell_later hb e3), cell_later q (cell_later hb e4)⟩
      clear d1 d2 d3 d4 e1 e2 e3 e4 hs
      have hC0 : 0 ≤ orI (cmpI ss[j].f ss[j + 1].f) (cmpI ss[j].pc ss[j + 1].pc) ↔ ¬ SiteLess ss[j] ss[j + 1] := cmp_less ss[j] ss[j + 1]
      obtain ⟨cr, hcr⟩ : ∃ cr, cr = orI (cmpI ss[j].f ss[j + 1].f) (cmpI ss[j].pc ss[j + 1].pc) := ⟨_, rfl⟩
      rw [← hcr] at hC0
      have HC0 : Hid (0 ≤ cr ↔ ¬ SiteLess ss[j] ss[j + 1]) := hC0
      have HCR : Hid (cr = orI (cmpI ss[j].f ss[j + 1].f) (cmpI ss[j].pc ss[j + 1].pc)) := hcr
      clear hC0 hcr
      go_upto_region 4 with fail
      refine wp_below (by kernel_rfl) (by kernel_rfl) ?_
      iterate 3
        refine q_want (v := ?_) (by kernel_rfl) ?_ ?_
        rotate_left
        · intro w' hC
          obtain ⟨j0, j1, j2, j3⟩ := HE.out w' hC
          go_simp
          try with_reducible rfl
        try simp only [Act.put, List.setIfInBounds_toArray, List.set_cons_zero, List.set_cons_succ]
      refine q_want (v := .int .i64 (j : Int)) (by kernel_rfl) ?_ ?_
      · intro w' hC
        go_simp
        (rw [IntKind.wrap_i64]; omega)
      try simp only [Act.put, List.setIfInBounds_toArray, List.set_cons_zero, List.set_cons_succ]
      have hj2 : (0 : Int) ≤ (j : Int) := by omega
      have hj3 : (j : Int) < (ss.length : Int) := by omega
      have hj4 : (0 : Int) ≤ (j : Int) + 1 := by omega
      have hj5 : (j : Int) + 1 < (ss.length : Int) := by omega
      have hj6 : ((j : Int) + 1).toNat = j + 1 := by omega
      iterate 2
        refine q_want (v := ?_) (by kernel_rfl) ?_ ?_
        rotate_left
        · intro w' hC
          obtain ⟨j0, j1, j2, j3⟩ := HE.out w' hC
          go_simp
          try with_reducible rfl
        try simp only [Act.put, List.setIfInBounds_toArray, List.set_cons_zero, List.set_cons_succ]
      refine q_want (v := .agg #[.int .i64 ss[j].f, .int .i64 ss[j].pc]) (by kernel_rfl) ?_ ?_
      · intro w' hC
        go_simp
        refine (guessed_any _ _ _ _ w').mono ?_
        rintro e w'' ⟨rfl, hb2⟩
        exact ⟨rfl, hC.trans (hb2.mono hC.size)⟩
      try simp only [Act.put, List.setIfInBounds_toArray, List.set_cons_zero, List.set_cons_succ]
      iterate 5
        refine q_want (v := ?_) (by kernel_rfl) ?_ ?_
        rotate_left
        · intro w' hC
          obtain ⟨j0, j1, j2, j3⟩ := HF.out w' hC
          go_simp
          try with_reducible rfl
        try simp only [Act.put, List.setIfInBounds_toArray, List.set_cons_zero, List.set_cons_succ]
      refine q_want (v := .agg #[.int .i64 ss[j + 1].f, .int .i64 ss[j + 1].pc]) (by kernel_rfl) ?_ ?_
      · intro w' hC
        go_simp
        refine (guessed_any _ _ _ _ w').mono ?_
        rintro e w'' ⟨rfl, hb2⟩
        exact ⟨rfl, hC.trans (hb2.mono hC.size)⟩
      try simp only [Act.put, List.setIfInBounds_toArray, List.set_cons_zero, List.set_cons_succ]
      refine q_want (v := .int .i64 cr) (by kernel_rfl) ?_ ?_
      · intro w' hC
        go_simp
        refine (comparePlaces_any _ _ _ _ w').mono ?_
        rintro e w'' ⟨rfl, hb2⟩
        exact ⟨by rw [HCR.out], hC.trans (hb2.mono hC.size)⟩
      try simp only [Act.put, List.setIfInBounds_toArray, List.set_cons_zero, List.set_cons_succ]
      by_cases h0 : 0 ≤ cr
      · have HX : Hid (¬ SiteLess ss[j] ss[j + 1]) := HC0.out.1 h0
        iterate 1
          refine q_want (v := ?_) (by kernel_rfl) ?_ ?_
          rotate_left
          · intro w' hC
            go_simp
            try with_reducible rfl
          try simp only [Act.put, List.setIfInBounds_toArray, List.set_cons_zero, List.set_cons_succ]
        refine wpQuiet_nil ?_
        intro w2 q2
        go_wp2
        go_ret
        exact ⟨ret_bool (pB_no (fun h => HX.out (by simpa using h (j + 1) hlt (by omega)))).symm, hb.trans (q2.mono hb.size)⟩
      · have HX : Hid (SiteLess ss[j] ss[j + 1]) := Classical.byContradiction (fun h => h0 (HC0.out.2 h))
        iterate 1
          refine q_want (v := ?_) (by kernel_rfl) ?_ ?_
          rotate_left
          · intro w' hC
            go_simp
            try with_reducible rfl
          try simp only [Act.put, List.setIfInBounds_toArray, List.set_cons_zero, List.set_cons_succ]
        refine wpQuiet_nil ?_
        intro w2 q2
        go_wp2
        go_roundw
        case rel =>
          refine ⟨j + 1 + 1, by omega, by omega, by go_num, ?_, hb.trans (q2.mono hb.size)⟩
          intro i hi h1 h2
          by_cases e : i = j + 1
          · subst e; exact HX.out
          · exact hdone.out i hi (by omega) h2
        case measure => simp [intOf]; omega

end Go.Proofs.YtcbknjjnphknbaaGreatDoor

namespace Go.Proofs.YtcbknjjnphknbaaGreatDoor
open Go.RowKit

/-- What is asked of one site of a list. -/
def At (fs : List Fn) (ss : List Si) (i : Nat) (h : i < ss.length) : Prop := SiteP fs ss[i] ∧ (0 < i → SiteLess ss[i - 1] ss[i])
/-- What is asked of a list of sites, but their number. -/
def Prof (fs : List Fn) (ss : List Si) : Prop := ∀ i (h : i < ss.length), At fs ss i h

section
variable {a1 a2 : Option Addr} {nt c1 c2 : Nat} {fs : List Fn} {s : Si} {w : World}
theorem prof_iff (fs : List Fn) (ss : List Si) : Prof fs ss ↔ (∀ i (h : i < ss.length), SiteP fs ss[i]) ∧ AscI ss :=
  ⟨fun h => ⟨fun i hi => (h i hi).1, fun i hi h0 => (h i hi).2 h0⟩, fun h i hi => ⟨h.1 i hi, fun h0 => h.2 i hi h0⟩⟩
theorem done_more {fs : List Fn} {ss : List Si} {k : Nat} (h : ∀ j (hj : j < ss.length), j < k → At fs ss j hj) (hlt : k < ss.length) (hk : At fs ss k hlt) : ∀ j (hj : j < ss.length), j < k + 1 → At fs ss j hj := by
  intro j hj hjk
  by_cases e : j = k
  · subst e; exact hk
  · exact h j hj (by omega)

end
end Go.Proofs.YtcbknjjnphknbaaGreatDoor

namespace Go.Proofs.YtcbknjjnphknbaaGreatDoor
open Go.RowKit

set_option maxHeartbeats 400000 in
theorem toSpec_any (f p s t : Int) (w : World) :
    Calls Tryz.prog 81 #[.agg #[.int .i64 f, .int .i64 p, .int .i64 s, .int .i64 t]] w fun e w' => e = .returned (.agg #[.int .i64 f, .int .i64 p, .int .i64 s, .int .i64 t]) ∧ Below w.heap.size w w' := by
  go_enter Tryz.func81, Tryz.ntmps81
  go_wp2
  refine bodyPost_ret (v := .agg #[.int .i64 f, .int .i64 p, .int .i64 s, .int .i64 t]) (by simp [results, Tryz.results81, go_sem]) rfl ⟨rfl, ?_⟩
  exact (((Below.refl _ _).alloc (Nat.le_refl _) _).alloc (by simp) _).alloc (by simp; omega) _

theorem info97 : (Tryz.prog.info? 97).map (fun i => (i.zero, i.size, i.bytes)) = some (some (.agg #[.int .i64 0, .int .i64 0, .int .i64 0, .int .i64 0]), 4, 32) := by kernel_rfl

set_option maxHeartbeats 400000 in
theorem eqSpec_same (f p s t : Int) (w : World) :
    Calls Tryz.prog 104 #[.agg #[.int .i64 f, .int .i64 p, .int .i64 s, .int .i64 t], .agg #[.int .i64 f, .int .i64 p, .int .i64 s, .int .i64 t]] w fun e w' => e = .returned (.bool true) ∧ Below w.heap.size w w' := by
  go_enter Tryz.func104, Tryz.ntmps104
  go_wp2
  go_ret
  exact ⟨rfl, ((Below.refl _ _).alloc (Nat.le_refl _) _).alloc (by simp) _⟩

theorem SitesAt.above {w w' : World} {lo : Nat} {a : Option Addr} {ss : List Si} (h : SitesAt w lo a ss) (hb : Above lo w w') : SitesAt w' lo a ss := by
  intro i hi
  obtain ⟨b, off, h1, h2, h3, h4, h5, h6⟩ := h i hi
  exact ⟨b, off, h1, h2, by rw [hb.cell h2]; exact h3, by rw [hb.cell h2]; exact h4, by rw [hb.cell h2]; exact h5, by rw [hb.cell h2]; exact h6⟩

end Go.Proofs.YtcbknjjnphknbaaGreatDoor
