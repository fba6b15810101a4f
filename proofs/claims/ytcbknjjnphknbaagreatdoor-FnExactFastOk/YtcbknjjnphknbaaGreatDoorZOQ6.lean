/-
  guessAt: the one guess that an instruction allows.
  specsOk: each guess of a list is the one that its instruction allows, and each is ahead of the next.
  The document's l07Ok.
-/
import Derived.Test.YtcbknjjnphknbaaGreatDoorZOQ5
import Derived.Laws.StructEq
namespace Go.Proofs.YtcbknjjnphknbaaGreatDoor
open Go.RowKit

/-- The function that is called takes so many values. -/
def Takes (fs : List Fn) (t : Int) (n : Int) : Prop := 0 ≤ t ∧ ∃ (h : t.toNat < fs.length), fs[t.toNat].params = n
/-- The one guess that an instruction allows, of a call that it calls t. -/
def guessD (fs : List Fn) (f p t : Int) (r : Option Si) : Prop :=
  (11 ≤ ((insD fs f p).getD (0, 0)).1 ∧ ((insD fs f p).getD (0, 0)).1 ≤ 14 ∧ r = some ⟨f, p, 1, 0⟩) ∨
  (((insD fs f p).getD (0, 0)).1 = 23 ∧ Takes fs t ((insD fs f p).getD (0, 0)).2 ∧ r = some ⟨f, p, 2, t⟩) ∨
  (¬ (11 ≤ ((insD fs f p).getD (0, 0)).1 ∧ ((insD fs f p).getD (0, 0)).1 ≤ 14) ∧ ¬ (((insD fs f p).getD (0, 0)).1 = 23 ∧ Takes fs t ((insD fs f p).getD (0, 0)).2) ∧ r = none)
theorem guessD_one {fs : List Fn} {f p t : Int} {r r' : Option Si} (h : guessD fs f p t r) (h' : guessD fs f p t r') : r = r' := by
  unfold guessD at h h'
  rcases h with ⟨x1, x2, x3⟩ | ⟨x1, x2, x3⟩ | ⟨x1, x2, x3⟩ <;> rcases h' with ⟨y1, y2, y3⟩ | ⟨y1, y2, y3⟩ | ⟨y1, y2, y3⟩ <;> first | (rw [x3, y3]; done) | (exfalso; omega) | (exfalso; exact y1 ⟨x1, x2⟩) | (exfalso; exact x1 ⟨y1, y2⟩) | (exfalso; exact y2 ⟨x1, x2⟩) | (exfalso; exact x2 ⟨y1, y2⟩)
theorem guessD_ex (fs : List Fn) (f p t : Int) : ∃ r, guessD fs f p t r := by
  unfold guessD
  by_cases h : 11 ≤ ((insD fs f p).getD (0, 0)).1 ∧ ((insD fs f p).getD (0, 0)).1 ≤ 14
  · exact ⟨_, .inl ⟨h.1, h.2, rfl⟩⟩
  · by_cases h2 : ((insD fs f p).getD (0, 0)).1 = 23 ∧ Takes fs t ((insD fs f p).getD (0, 0)).2
    · exact ⟨_, .inr (.inl ⟨h2.1, h2.2, rfl⟩)⟩
    · exact ⟨_, .inr (.inr ⟨h, h2, rfl⟩)⟩
/-- What guessAt answers. -/
def GuessP (fs : List Fn) (f p t : Int) (w : World) (e : Ending) (w' : World) : Prop := ∃ r, guessD fs f p t r ∧ e = .returned (.tuple #[.agg (r.getD ⟨0, 0, 0, 0⟩).cells, .bool r.isSome]) ∧ Below w.heap.size w w'

set_option maxRecDepth 100000 in
set_option maxHeartbeats 4000000 in
theorem guessAt_any (a1 a2 : Option Addr) (nt c1 c2 : Nat) (fs : List Fn) (f p t : Int) (w : World) (hc : ∀ f ∈ fs, f.code.length ≤ 1048576) (hm : FnsAt w 0 a2 fs) :
    Calls Tryz.prog 143 #[.agg #[.slice a1 nt c1, .slice a2 fs.length c2], .agg #[.int .i64 f, .int .i64 p], .int .i64 t] w (GuessP fs f p t w) := by
  obtain ⟨w0, hw0⟩ : ∃ w0, w0 = ((w.alloc (.cells #[.slice a1 nt c1, .slice a2 fs.length c2] 35)).alloc (.cells #[.int .i64 f, .int .i64 p] 173)).alloc (.cells #[.int .i64 0, .int .i64 0, .int .i64 0, .int .i64 0] 97) := ⟨_, rfl⟩
  have hB : Below w.heap.size w w0 := by rw [hw0]; exact (((Below.refl _ _).alloc (Nat.le_refl _) _).alloc (by simp) _).alloc (by simp; omega) _
  have hX : w0.heap[w.heap.size]? = some (.cells #[.slice a1 nt c1, .slice a2 fs.length c2] 35 (0, 0)) := by rw [hw0]; exact block_old (block_old (block_new _ _ _) _) _
  have hY : w0.heap[w.heap.size + 1]? = some (.cells #[.int .i64 f, .int .i64 p] 173 (0, 0)) := by rw [hw0]; exact block_old (by simpa using block_new (w.alloc (.cells #[.slice a1 nt c1, .slice a2 fs.length c2] 35)) #[.int .i64 f, .int .i64 p] 173) _
  have hR : w0.heap[w.heap.size + 1 + 1]? = some (.cells #[.int .i64 0, .int .i64 0, .int .i64 0, .int .i64 0] 97 (0, 0)) := by rw [hw0]; simpa using block_new ((w.alloc (.cells #[.slice a1 nt c1, .slice a2 fs.length c2] 35)).alloc (.cells #[.int .i64 f, .int .i64 p] 173)) #[.int .i64 0, .int .i64 0, .int .i64 0, .int .i64 0] 97
  obtain ⟨op, hop⟩ : ∃ op, op = ((insD fs f p).getD (0, 0)).1 := ⟨_, rfl⟩
  obtain ⟨ar, har⟩ : ∃ ar, ar = ((insD fs f p).getD (0, 0)).2 := ⟨_, rfl⟩
  have hI := insAt_any a1 a2 nt c1 c2 fs f p w0 hc (hm.mono hB)
  have HP : Hid (∀ e w', ((11 ≤ op ∧ op ≤ 14 → e = .returned (.tuple #[.agg #[.int .i64 f, .int .i64 p, .int .i64 1, .int .i64 0], .bool true])) ∧ (op = 23 ∧ Takes fs t ar → e = .returned (.tuple #[.agg #[.int .i64 f, .int .i64 p, .int .i64 2, .int .i64 t], .bool true])) ∧ (¬ (11 ≤ op ∧ op ≤ 14) → ¬ (op = 23 ∧ Takes fs t ar) → e = .returned (.tuple #[.agg #[.int .i64 0, .int .i64 0, .int .i64 0, .int .i64 0], .bool false])) ∧ Below w.heap.size w w') → GuessP fs f p t w e w') := by
    show ∀ e w', _ → _
    rintro e w' ⟨h1, h2, h3, h4⟩
    rw [hop] at h1
    rw [hop, har] at h2 h3
    by_cases x : 11 ≤ ((insD fs f p).getD (0, 0)).1 ∧ ((insD fs f p).getD (0, 0)).1 ≤ 14
    · exact ⟨_, .inl ⟨x.1, x.2, rfl⟩, h1 x, h4⟩
    · by_cases y : ((insD fs f p).getD (0, 0)).1 = 23 ∧ Takes fs t ((insD fs f p).getD (0, 0)).2
      · exact ⟨_, .inr (.inl ⟨y.1, y.2, rfl⟩), h2 y, h4⟩
      · exact ⟨_, .inr (.inr ⟨x, y, rfl⟩), h3 x y, h4⟩
  rw [← hop, ← har] at hI
  clear hop har
  go_enter Tryz.func143, Tryz.ntmps143
  go_wp2_with fail
  rw [← hw0]
  clear hw0
  refine hI.mono ?_
  rintro e w1 ⟨rfl, hb1⟩
  clear hI
  have hb2 : Below w1.heap.size w1 (w1.alloc (.cells #[.int .i64 op, .int .i64 ar] 135)) := (Below.refl _ _).alloc (Nat.le_refl _) _
  have hV3 := block_new w1 #[.int .i64 op, .int .i64 ar] 135
  have hb3 := hb1.trans (hb2.mono hb1.size)
  have hX3 := block_kept hX hb3
  have hY3 := block_kept hY hb3
  have hR3 := block_kept hR hb3
  have HB3 : Hid (Below w.heap.size w (w1.alloc (.cells #[.int .i64 op, .int .i64 ar] 135))) := hB.trans (hb3.mono hB.size)
  have hm3 := hm.mono HB3.out
  have HZ1 : Hid (w0.heap.size ≤ w1.heap.size) := hb1.size
  obtain ⟨w3, hw3⟩ : ∃ w3, w3 = w1.alloc (.cells #[.int .i64 op, .int .i64 ar] 135) := ⟨_, rfl⟩
  rw [← hw3] at hV3 hX3 hY3 hR3 HB3 hm3
  have v1 := block_cell hV3
  have x1 := block_cell hX3
  have y1 := block_cell hY3
  have z1 := block_cell hR3
  have z2 := block_free hR3
  clear hb1 hb2 hb3 hX hY hR hB hV3 hX3 hY3 hm
  go_upto_region 2 with fail
  rw [← hw3]
  clear hw3
  by_cases h6 : 11 ≤ op ∧ op ≤ 14
  · have H6 : Hid (11 ≤ op ∧ op ≤ 14) := h6
    have HN5 : Hid (op ≠ 23) := by show op ≠ 23; omega
    clear h6
    go_wp2_with (go_at_call 153; refine (numberOp_yes H6.out _).mono ?_; rintro e w' ⟨rfl, rfl⟩)
    refine bodyPost_ret (v := .tuple #[.agg #[.int .i64 f, .int .i64 p, .int .i64 1, .int .i64 0], .bool true]) (by simp [results, Tryz.results143, go_sem, z1]) rfl (HP.out _ _ ⟨fun _ => rfl, fun h => absurd h.1 HN5.out, fun h => absurd H6.out h, ?_⟩)
    repeat (first | refine Below.setCell ?_ (by first | omega | (simp; omega) | simp) _ | with_reducible exact HB3.out | exact below_draws HB3.out _)
  have H6 : Hid (¬ (11 ≤ op ∧ op ≤ 14)) := h6
  clear h6
  go_wp2_with (go_at_call 153; refine (numberOp_no H6.out _).mono ?_; rintro e w' ⟨rfl, rfl⟩)
  by_cases h5 : op = 23
  case neg =>
    have HNT : Hid (¬ (op = 23 ∧ Takes fs t ar)) := fun h => h5 h.1
    have k5 : (op == 23) = false := by simpa using h5
    go_big_quiet (fail)
    go_wp2
    refine bodyPost_ret (v := .tuple #[.agg #[.int .i64 0, .int .i64 0, .int .i64 0, .int .i64 0], .bool false]) (by simp [results, Tryz.results143, go_sem, z1]) rfl (HP.out _ _ ⟨fun h => absurd h H6.out, fun h => absurd h HNT.out, fun _ _ => rfl, ?_⟩)
    repeat (first | refine Below.setCell ?_ (by first | omega | (simp; omega) | simp) _ | with_reducible exact HB3.out | exact below_draws HB3.out _)
  subst h5
  by_cases h7 : 0 ≤ t
  case neg =>
    have HNT : Hid (¬ ((23 : Int) = 23 ∧ Takes fs t ar)) := fun h => h7 h.2.1
    go_big_quiet (fail)
    go_wp2
    refine bodyPost_ret (v := .tuple #[.agg #[.int .i64 0, .int .i64 0, .int .i64 0, .int .i64 0], .bool false]) (by simp [results, Tryz.results143, go_sem, z1]) rfl (HP.out _ _ ⟨fun h => absurd h H6.out, fun h => absurd h HNT.out, fun _ _ => rfl, ?_⟩)
    repeat (first | refine Below.setCell ?_ (by first | omega | (simp; omega) | simp) _ | with_reducible exact HB3.out | exact below_draws HB3.out _)
  obtain ⟨t, rfl⟩ : ∃ t' : Nat, t = t' := ⟨t.toNat, by omega⟩
  by_cases h8 : t < fs.length
  case neg =>
    have HNT : Hid (¬ ((23 : Int) = 23 ∧ Takes fs t ar)) := fun h => by obtain ⟨-, -, hf, -⟩ := h; simp at hf; omega
    have g1 : (0 : Int) ≤ (t : Int) := by omega
    have g2 : (fs.length : Int) ≤ (t : Int) := by omega
    go_big_quiet (fail)
    go_wp2
    refine bodyPost_ret (v := .tuple #[.agg #[.int .i64 0, .int .i64 0, .int .i64 0, .int .i64 0], .bool false]) (by simp [results, Tryz.results143, go_sem, z1]) rfl (HP.out _ _ ⟨fun h => absurd h H6.out, fun h => absurd h HNT.out, fun _ _ => rfl, ?_⟩)
    repeat (first | refine Below.setCell ?_ (by first | omega | (simp; omega) | simp) _ | with_reducible exact HB3.out | exact below_draws HB3.out _)
  obtain ⟨b, off, ca, cc, rfl, -, d1, d2, d3, -⟩ := hm3 t h8
  clear d2 d3
  obtain ⟨pr, hpr⟩ : ∃ pr, pr = fs[t].params := ⟨_, rfl⟩
  rw [← hpr] at d1
  have HPR : Hid (Takes fs t ar ↔ pr = ar) := by
    show _ ↔ _
    rw [hpr]
    exact ⟨fun h => by obtain ⟨-, hf, he⟩ := h; simpa using he, fun h => ⟨by omega, by simpa using h8, by simpa using h⟩⟩
  clear hpr
  by_cases h9 : pr = ar
  · subst h9
    have HT : Hid (Takes fs t pr) := HPR.out.2 rfl
    have g1 : (0 : Int) ≤ (t : Int) := by omega
    have g2 : ¬ (fs.length : Int) ≤ (t : Int) := by omega
    go_big_quiet (fail)
    go_wp2
    refine bodyPost_ret (v := .tuple #[.agg #[.int .i64 f, .int .i64 p, .int .i64 2, .int .i64 t], .bool true]) (by simp [results, Tryz.results143, go_sem, z1]) rfl (HP.out _ _ ⟨fun h => absurd h H6.out, fun _ => rfl, fun _ h => absurd (by first | exact ⟨rfl, HT.out⟩ | exact ⟨trivial, HT.out⟩) h, ?_⟩)
    repeat (first | refine Below.setCell ?_ (by first | omega | (simp; omega) | simp) _ | with_reducible exact HB3.out | exact below_draws HB3.out _)
  · have HNT : Hid (¬ ((23 : Int) = 23 ∧ Takes fs t ar)) := fun h => h9 (HPR.out.1 h.2)
    have g1 : (0 : Int) ≤ (t : Int) := by omega
    have g2 : ¬ (fs.length : Int) ≤ (t : Int) := by omega
    go_big_quiet (fail)
    go_wp2
    refine bodyPost_ret (v := .tuple #[.agg #[.int .i64 0, .int .i64 0, .int .i64 0, .int .i64 0], .bool false]) (by simp [results, Tryz.results143, go_sem, z1]) rfl (HP.out _ _ ⟨fun h => absurd h H6.out, fun h => absurd h HNT.out, fun _ _ => rfl, ?_⟩)
    repeat (first | refine Below.setCell ?_ (by first | omega | (simp; omega) | simp) _ | with_reducible exact HB3.out | exact below_draws HB3.out _)
end Go.Proofs.YtcbknjjnphknbaaGreatDoor

namespace Go.Proofs.YtcbknjjnphknbaaGreatDoor
open Go.RowKit

theorem si_eq {v u : Si} : v = u ↔ v.f = u.f ∧ v.pc = u.pc ∧ v.seen = u.seen ∧ v.target = u.target := by
  cases v; cases u; simp
theorem pB_and (P Q : Prop) : pB (P ∧ Q) = (pB P && pB Q) := by
  rw [Bool.eq_iff_iff]
  simp [pB]
theorem int_eq (a b : Int) : (a == b) = pB (a = b) := by
  rw [Bool.eq_iff_iff]
  simp [pB]
theorem guard44 : Tryz.prog.eqGuardType Tryz.prog.depth 97 = false := by kernel_rfl

set_option maxRecDepth 100000 in
theorem eqIn44 (v u : Si) (W : World) : (Op.equalIn 10000 97 (.agg #[.int .i64 v.f, .int .i64 v.pc, .int .i64 v.seen, .int .i64 v.target]) (.agg #[.int .i64 u.f, .int .i64 u.pc, .int .i64 u.seen, .int .i64 u.target])).run Tryz.prog W = .ok (pB (v = u)) W := by
  have h : ∀ d : Nat, (Op.equalIn (d + 1 + 1) 97 (.agg #[.int .i64 v.f, .int .i64 v.pc, .int .i64 v.seen, .int .i64 v.target]) (.agg #[.int .i64 u.f, .int .i64 u.pc, .int .i64 u.seen, .int .i64 u.target])).run Tryz.prog W = .ok (pB (v = u)) W := fun d => by
    have ht : Tryz.prog.underlying 97 = some (.struct (Tryz.prog.fieldsOf 97)) := by kernel_rfl
    have hp : Tryz.prog.stoodInHeld 97 = false := by kernel_rfl
    have hf : (Tryz.prog.fieldsOf 97).toList.map (fun f => (f.name, f.type, f.offset)) = [("Func", 3, 0), ("Pc", 3, 1), ("Kind", 3, 2), ("Target", 3, 3)] := by kernel_rfl
    rw [run_equalIn_struct W (d + 1) 97 _ _ ht hp]
    have p0 : ∀ (a b c e : Int) (W : World), (part 3 #[.int .i64 a, .int .i64 b, .int .i64 c, .int .i64 e] 0).run Tryz.prog W = .ok (.int .i64 a) W := fun _ _ _ _ _ => by kernel_rfl
    have p1 : ∀ (a b c e : Int) (W : World), (part 3 #[.int .i64 a, .int .i64 b, .int .i64 c, .int .i64 e] 1).run Tryz.prog W = .ok (.int .i64 b) W := fun _ _ _ _ _ => by kernel_rfl
    have p2 : ∀ (a b c e : Int) (W : World), (part 3 #[.int .i64 a, .int .i64 b, .int .i64 c, .int .i64 e] 2).run Tryz.prog W = .ok (.int .i64 c) W := fun _ _ _ _ _ => by kernel_rfl
    have p3 : ∀ (a b c e : Int) (W : World), (part 3 #[.int .i64 a, .int .i64 b, .int .i64 c, .int .i64 e] 3).run Tryz.prog W = .ok (.int .i64 e) W := fun _ _ _ _ _ => by kernel_rfl
    rcases hL : (Tryz.prog.fieldsOf 97).toList with _ | ⟨f1, _ | ⟨f2, _ | ⟨f3, _ | ⟨f4, _ | _⟩⟩⟩⟩
    · rw [hL] at hf; simp at hf
    · rw [hL] at hf; simp at hf
    · rw [hL] at hf; simp at hf
    · rw [hL] at hf; simp at hf
    · rw [hL] at hf
      simp only [List.map_cons, List.map_nil, List.cons.injEq, Prod.mk.injEq, and_true] at hf
      obtain ⟨⟨n1, t1, o1⟩, ⟨n2, t2, o2⟩, ⟨n3, t3, o3⟩, n4, t4, o4⟩ := hf
      have e1 := run_equalIn_int (P := Tryz.prog) W d 3 .i64 .i64 v.f u.f Tryz.underlying3
      have e2 := run_equalIn_int (P := Tryz.prog) W d 3 .i64 .i64 v.pc u.pc Tryz.underlying3
      have e3 := run_equalIn_int (P := Tryz.prog) W d 3 .i64 .i64 v.seen u.seen Tryz.underlying3
      have e4 := run_equalIn_int (P := Tryz.prog) W d 3 .i64 .i64 v.target u.target Tryz.underlying3
      rw [int_eq] at e1 e2 e3 e4
      have hb : pB (v = u) = (pB (v.f = u.f) && (pB (v.pc = u.pc) && (pB (v.seen = u.seen) && pB (v.target = u.target)))) := by
        rw [← pB_and, ← pB_and, ← pB_and, show (v = u) = (v.f = u.f ∧ v.pc = u.pc ∧ v.seen = u.seen ∧ v.target = u.target) from propext si_eq]
      rw [hb]
      cases hk : pB (v.f = u.f) <;> cases hn : pB (v.pc = u.pc) <;> cases hs : pB (v.seen = u.seen) <;> cases hq : pB (v.target = u.target) <;> rw [hk] at e1 <;> rw [hn] at e2 <;> rw [hs] at e3 <;> rw [hq] at e4 <;>
        simp [Op.eqFields, n1, t1, o1, n2, t2, o2, n3, t3, o3, n4, t4, o4, p0, p1, p2, p3, e1, e2, e3, e4]
    · rw [hL] at hf; simp at hf
  exact h 9998

/-- The guess is the one that its instruction allows. -/
def SpecP (fs : List Fn) (s : Si) : Prop := guessD fs s.f s.pc s.target (some s)
/-- What is asked of a list of guesses, but their number. -/
def Specs (fs : List Fn) (ss : List Si) : Prop := (∀ i (h : i < ss.length), SpecP fs ss[i]) ∧ AscI ss

set_option maxRecDepth 100000 in
set_option maxHeartbeats 4000000 in
theorem specsOk_any (a1 a2 : Option Addr) (nt c1 c2 : Nat) (fs : List Fn) (a : Option Addr) (cap : Nat) (ss : List Si) (w : World) (hn : ss.length ≤ 150) (hc : ∀ f ∈ fs, f.code.length ≤ 1048576) (hm : FnsAt w 0 a2 fs) (hs : SitesAt w 0 a ss) :
    Calls Tryz.prog 131 #[.agg #[.slice a1 nt c1, .slice a2 fs.length c2], .slice a ss.length cap] w fun e w' => e = .returned (.bool (pB (Specs fs ss))) ∧ Below w.heap.size w w' := by
  have HG : Hid (∀ (f p t : Int) w', Below w.heap.size w w' → Calls Tryz.prog 143 #[.agg #[.slice a1 nt c1, .slice a2 fs.length c2], .agg #[.int .i64 f, .int .i64 p], .int .i64 t] w' (GuessP fs f p t w')) := fun f p t w' hb => guessAt_any a1 a2 nt c1 c2 fs f p t w' hc (hm.mono hb)
  clear hc hm
  go_enter Tryz.func131, Tryz.ntmps131
  go_wp2
  go_loopw [11] (fun i wr => ∃ (k : Nat), k ≤ ss.length ∧ i = .int .i64 k ∧ Hid (∀ j (hj : j < ss.length), j < k → SpecP fs ss[j]) ∧ wr.heap[w.heap.size]? = some (.cells #[.slice a1 nt c1, .slice a2 fs.length c2] 35 (0, 0)) ∧ Below w.heap.size w wr) (fun i _ => ss.length - (intOf i).toNat)
  case atStart => exact ⟨0, by omega, rfl, fun _ _ h => absurd h (Nat.not_lt_zero _), block_new _ _ _, (Below.refl _ _).alloc (Nat.le_refl _) _⟩
  case round =>
    obtain ⟨k, hk, rfl, hdone, hM, hb⟩ := hrel
    by_cases hlt : k < ss.length
    case neg =>
      have HD : Hid (∀ i (h : i < ss.length), SpecP fs ss[i]) := fun i hi => hdone.out i hi (by omega)
      clear hdone hM
      go_wp2_with fail
      refine (ascSpecs_any a ss cap wr (by omega) (hs.mono hb)).mono ?_
      rintro e w2 ⟨rfl, hb2⟩
      have HB2 : Hid (Below w.heap.size w w2) := hb.trans (hb2.mono hb.size)
      go_wp2
      go_ret
      refine ⟨ret_bool ?_, HB2.out⟩
      by_cases h : AscI ss
      · rw [pB_yes h, pB_yes (show Specs fs ss from ⟨HD.out, h⟩)]
      · rw [pB_no h, pB_no (fun h' : Specs fs ss => h h'.2)]
    case pos =>
      obtain ⟨b, off, rfl, -, d1, d2, d3, d4⟩ := hs k hlt
      have d1' := cell_later hb d1
      have d2' := cell_later hb d2
      have d3' := cell_later hb d3
      have d4' := cell_later hb d4
      clear d1 d2 d3 d4
      obtain ⟨w2, hw2⟩ : ∃ w2, w2 = wr.alloc (.cells #[.int .i64 ss[k].f, .int .i64 ss[k].pc, .int .i64 ss[k].seen, .int .i64 ss[k].target] 97) := ⟨_, rfl⟩
      have hM2 : w2.heap[w.heap.size]? = some (.cells #[.slice a1 nt c1, .slice a2 fs.length c2] 35 (0, 0)) := by rw [hw2]; exact block_old hM _
      have hX2 : w2.heap[wr.heap.size]? = some (.cells #[.int .i64 ss[k].f, .int .i64 ss[k].pc, .int .i64 ss[k].seen, .int .i64 ss[k].target] 97 (0, 0)) := by rw [hw2]; exact block_new _ _ _
      have HB : Hid (Below w.heap.size w w2) := by rw [hw2]; exact hb.alloc hb.size _
      have HZ : Hid (wr.heap.size + 1 ≤ w2.heap.size) := by rw [hw2]; show _ ≤ _; simp
      have hwz : w.heap.size < wr.heap.size := by
        have := hM
        rcases Nat.lt_or_ge w.heap.size wr.heap.size with h | h
        · exact h
        · rw [Array.getElem?_eq_none h] at this; cases this
      have HWZ : Hid (w.heap.size < wr.heap.size) := hwz
      clear hwz
      have HS : Hid (∀ w', Below (wr.heap.size + 1) w2 w' → w'.cell? ⟨w.heap.size, 0, none⟩ = some (.slice a1 nt c1) ∧ w'.cell? ⟨w.heap.size, 1, none⟩ = some (.slice a2 fs.length c2) ∧ w'.cell? ⟨wr.heap.size, 0, none⟩ = some (.int .i64 ss[k].f) ∧ w'.cell? ⟨wr.heap.size, 1, none⟩ = some (.int .i64 ss[k].pc) ∧ w'.cell? ⟨wr.heap.size, 2, none⟩ = some (.int .i64 ss[k].seen) ∧ w'.cell? ⟨wr.heap.size, 3, none⟩ = some (.int .i64 ss[k].target)) := fun w' q =>
        ⟨by rw [q.cell (by have := HWZ.out; simp; omega), block_cell hM2]; rfl, by rw [q.cell (by have := HWZ.out; simp; omega), block_cell hM2]; rfl, by rw [q.cell (by simp), block_cell hX2]; rfl, by rw [q.cell (by simp), block_cell hX2]; rfl, by rw [q.cell (by simp), block_cell hX2]; rfl, by rw [q.cell (by simp), block_cell hX2]; rfl⟩
      obtain ⟨j0, j1, j2, j3, j4, j5⟩ := HS.out w2 (Below.refl _ _)
      have q : Below w2.heap.size w2 w2.drew := (Below.refl _ _).drew
      have HM2 : Hid (w2.heap[w.heap.size]? = some (.cells #[.slice a1 nt c1, .slice a2 fs.length c2] 35 (0, 0))) := hM2
      clear hM hM2 hX2
      go_upto_region 4 with fail
      rw [← hw2]
      clear hw2 d1' d2' d3' d4'
      go_cut [7, 8] from 15 to 24 (fun s7 s8 wx => ∃ g r, s7 = .pointer (some ⟨g, 0, none⟩) ∧ s8 = .bool (Option.isSome r) ∧ guessD fs ss[k].f ss[k].pc ss[k].target r ∧ wx.heap[g]? = some (.cells (r.getD ⟨0, 0, 0, 0⟩).cells 97 (0, 0)) ∧ Below w2.heap.size w2 wx)
      case first =>
        go_region_held3 (fun w' => w'.cell? ⟨w.heap.size, 0, none⟩ = some (.slice a1 nt c1) ∧ w'.cell? ⟨w.heap.size, 1, none⟩ = some (.slice a2 fs.length c2) ∧ w'.cell? ⟨wr.heap.size, 0, none⟩ = some (.int .i64 ss[k].f) ∧ w'.cell? ⟨wr.heap.size, 1, none⟩ = some (.int .i64 ss[k].pc) ∧ w'.cell? ⟨wr.heap.size, 2, none⟩ = some (.int .i64 ss[k].seen) ∧ w'.cell? ⟨wr.heap.size, 3, none⟩ = some (.int .i64 ss[k].target))
          (first
            | exact ⟨j0, j1, j2, j3, j4, j5⟩
            | exact HS.out _ (q.mono HZ.out)
            | exact HS.out _ ((q.mono HZ.out).alloc (Nat.le_trans HZ.out q.size) _)
            | exact HS.out _ (((((q.mono HZ.out).setCell (Nat.le_trans HZ.out hg) _).setCell (Nat.le_trans HZ.out hg) _).setCell (Nat.le_trans HZ.out hg) _).setCell (Nat.le_trans HZ.out hg) _)
            | exact HS.out _ ((((((q.mono HZ.out).alloc (Nat.le_trans HZ.out q.size) _).setCell (Nat.le_trans HZ.out q.size) _).setCell (Nat.le_trans HZ.out q.size) _).setCell (Nat.le_trans HZ.out q.size) _).setCell (Nat.le_trans HZ.out q.size) _))
          (first
            | (go_at_call 144; refine (guessed_any _ _ _ _ _).mono ?_; rintro e wa ⟨rfl, kd⟩; (first | (have hk := block_kept hk kd; have hc := block_cell hk; have hf := block_free hk) | (have hk := block_kept (block_new_drew _ _ _) kd; have hg := Nat.le_refl w2.heap.size; have hc := block_cell hk; have hf := block_free hk) | (have hk := block_kept (block_new _ _ _) kd; have hg := q.size; have hc := block_cell hk; have hf := block_free hk) | skip); (first | (have q := q.trans (kd.mono q.size)) | (have q := (q.alloc q.size _).trans (kd.mono (by have := q.size; simp <;> omega)))))
            | (go_at_call 143; refine (HG.out _ _ _ _ (by first | exact HB.out.trans (q.mono HB.out.size) | exact HB.out.trans ((q.alloc q.size _).mono HB.out.size))).mono ?_; rintro e wb ⟨r, hr, rfl, kd⟩; obtain ⟨r0, hr0⟩ : ∃ r0, r0 = r.getD ⟨0, 0, 0, 0⟩ := ⟨_, rfl⟩; rw [← hr0]; obtain ⟨r1, r2, r3, r4⟩ := r0; have HR0 : Hid (r.getD ⟨0, 0, 0, 0⟩ = ⟨r1, r2, r3, r4⟩) := hr0.symm; clear hr0; have HRR : Hid (guessD fs ss[k].f ss[k].pc ss[k].target r) := hr; clear hr; unfold Si.cells; dsimp only; (first | (have hk := block_kept hk kd; have hc := block_cell hk; have hf := block_free hk) | (have hk := block_kept (block_new_drew _ _ _) kd; have hg := Nat.le_refl w2.heap.size; have hc := block_cell hk; have hf := block_free hk) | (have hk := block_kept (block_new _ _ _) kd; have hg := q.size; have hc := block_cell hk; have hf := block_free hk) | skip); (first | (have q := q.trans (kd.mono q.size)) | (have q := (q.alloc q.size _).trans (kd.mono (by have := q.size; simp <;> omega))))))
        all_goals
          go_wp2_with fail
          go_meet
          case rel =>
            first
              | exact ⟨_, r, rfl, rfl, HRR.out, by rw [HR0.out]; exact stored4 hk, (((q.setCell hg _).setCell hg _).setCell hg _).setCell hg _⟩
              | exact ⟨_, r, rfl, rfl, HRR.out, by rw [HR0.out]; exact block_new _ _ _, q.alloc q.size _⟩
      case rest =>
        obtain ⟨g, r, rfl, rfl, hr, hG, hq⟩ := hcut
        have HB2 : Hid (Below w.heap.size w wc) := HB.out.trans (hq.mono HB.out.size)
        have HM3 : Hid (wc.heap[w.heap.size]? = some (.cells #[.slice a1 nt c1, .slice a2 fs.length c2] 35 (0, 0))) := block_kept HM2.out hq
        clear j0 j1 j2 j3 j4 j5 q
        obtain ⟨j0, j1, j2, j3, j4, j5⟩ := HS.out wc (hq.mono HZ.out)
        clear HS HZ hq HB HG HM2
        cases r with
        | none =>
          have HX : Hid (¬ SpecP fs ss[k]) := fun h => by cases guessD_one h hr
          clear hr
          go_wp2
          go_ret
          exact ⟨ret_bool (pB_no (fun h => HX.out (h.1 k hlt))).symm, HB2.out⟩
        | some u =>
          have g44 := guard44
          have e44 := eqIn44 u ss[k]
          have hG' : wc.heap[g]? = some (.cells #[.int .i64 u.f, .int .i64 u.pc, .int .i64 u.seen, .int .i64 u.target] 97 (0, 0)) := hG
          have c0 := block_cell hG'
          clear hG
          by_cases hE : u = ss[k]
          · have HX : Hid (SpecP fs ss[k]) := by show guessD _ _ _ _ _; rw [← hE]; rw [← hE] at hr; exact hr
            rw [pB_yes hE] at e44
            clear hr hE
            go_wp2
            go_roundw
            case rel =>
              refine ⟨k + 1, by omega, by go_num, ?_, HM3.out, HB2.out⟩
              intro j hj hjk
              by_cases e : j = k
              · subst e; exact HX.out
              · exact hdone.out j hj (by omega)
            case measure => simp [intOf]; omega
          · have HX : Hid (¬ SpecP fs ss[k]) := fun h => hE (Option.some.inj (guessD_one hr h))
            rw [pB_no hE] at e44
            clear hr hE
            go_wp2
            go_ret
            exact ⟨ret_bool (pB_no (fun h => HX.out (h.1 k hlt))).symm, HB2.out⟩
end Go.Proofs.YtcbknjjnphknbaaGreatDoor

namespace Go.Proofs.YtcbknjjnphknbaaGreatDoor
open Go.RowKit

theorem is_yes {op : Int} (h : 11 ≤ op ∧ op ≤ 14 ∨ op = 23) (w : World) : Calls Tryz.prog 113 #[.int .i64 op] w fun e w' => e = .returned (.bool true) ∧ w' = w := by
  have := is_any op w
  rwa [decide_eq_true h] at this
theorem is_no {op : Int} (h : ¬ (11 ≤ op ∧ op ≤ 14 ∨ op = 23)) (w : World) : Calls Tryz.prog 113 #[.int .i64 op] w fun e w' => e = .returned (.bool false) ∧ w' = w := by
  have := is_any op w
  rwa [decide_eq_false h] at this
theorem between_yes {n lo hi : Int} (h : lo ≤ n ∧ n ≤ hi) (w : World) : Calls Tryz.prog 34 #[.int .i64 n, .int .i64 lo, .int .i64 hi] w fun e w' => e = .returned (.bool true) ∧ w' = w := by
  have := between_any n lo hi w
  rwa [decide_eq_true h.1, decide_eq_true h.2] at this
theorem between_no {n lo hi : Int} (h : ¬ (lo ≤ n ∧ n ≤ hi)) (w : World) : Calls Tryz.prog 34 #[.int .i64 n, .int .i64 lo, .int .i64 hi] w fun e w' => e = .returned (.bool false) ∧ w' = w := by
  have := between_any n lo hi w
  rwa [← Bool.decide_and, decide_eq_false h] at this
/-- What is asked of a list of sites. -/
def ProfP (fs : List Fn) (ss : List Si) : Prop := ss.length ≤ 150 ∧ Prof fs ss

end Go.Proofs.YtcbknjjnphknbaaGreatDoor
