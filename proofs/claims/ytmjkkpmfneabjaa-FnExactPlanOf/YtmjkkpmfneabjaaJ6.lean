/-
  guessAt: the one guess that an instruction allows.
-/
import Derived.Test.YtmjkkpmfneabjaaY6
import Derived.Test.YtmjkkpmfneabjaaJ1
namespace Go.Proofs.Ytmjkkpmfneabjaa
open Go.RowKit

/-- The function that is called takes so many values. -/
def Takes (fs : List Fn) (t : Int) (n : Int) : Prop := 0 ≤ t ∧ ∃ (h : t.toNat < fs.length), fs[t.toNat].params = n
/-- The one guess that an instruction allows, of a call that it calls t. -/
def guessD (fs : List Fn) (f p t : Int) (r : Option Si) : Prop :=
  (11 ≤ ((insD fs f p).getD (0, 0)).1 ∧ ((insD fs f p).getD (0, 0)).1 ≤ 14 ∧ r = some ⟨f, p, 1, 0⟩) ∨
  (((insD fs f p).getD (0, 0)).1 = 23 ∧ Takes fs t ((insD fs f p).getD (0, 0)).2 ∧ r = some ⟨f, p, 2, t⟩) ∨
  (¬ (11 ≤ ((insD fs f p).getD (0, 0)).1 ∧ ((insD fs f p).getD (0, 0)).1 ≤ 14) ∧ ¬ (((insD fs f p).getD (0, 0)).1 = 23 ∧ Takes fs t ((insD fs f p).getD (0, 0)).2) ∧ r = none)
theorem guessD_one {fs : List Fn} {f p t : Int} {r r' : Option Si} (h : guessD fs f p t r) (h' : guessD fs f p t r') : r = r' := by
  unfold guessD at h h'
  rcases h with ⟨x1, x2, x3⟩ | ⟨x1, x2, x3⟩ | ⟨x1, x2, x3⟩ <;> rcases h' with ⟨y1, y2, y3⟩ | ⟨y1, y2, y3⟩ | ⟨y1, y2, y3⟩ <;> first | (rw [x3, y3]; done) | (exfalso; omega) | (exfalso; exact y1 ⟨x1, x2⟩) | (exfalso; exact x1 ⟨y1, y2⟩) | (exfalso; exact y2 ⟨x1, x2⟩) | (exfalso; exact x2 ⟨y1, y2⟩)
theorem guessD_ex (fs : List Fn) (f p t : Int) : ∃ r, guessD fs f p t r := by
  unfold guessD
  by_cases h : 11 ≤ ((insD fs f p).getD (0, 0)).1 ∧ ((insD fs f p).getD (0, 0)).1 ≤ 14
  · exact ⟨_, .inl ⟨h.1, h.2, rfl⟩⟩
  · by_cases h2 : ((insD fs f p).getD (0, 0)).1 = 23 ∧ Takes fs t ((insD fs f p).getD (0, 0)).2
    · exact ⟨_, .inr (.inl ⟨h2.1, h2.2, rfl⟩)⟩
    · exact ⟨_, .inr (.inr ⟨h, h2, rfl⟩)⟩
/-- What guessAt answers. -/
def GuessP (fs : List Fn) (f p t : Int) (w : World) (e : Ending) (w' : World) : Prop := ∃ r, guessD fs f p t r ∧ e = .returned (.tuple #[.agg (r.getD ⟨0, 0, 0, 0⟩).cells, .bool r.isSome]) ∧ Below w.heap.size w w'

set_option maxRecDepth 100000 in
set_option maxHeartbeats 4000000 in
theorem guessAt_any (a1 a2 : Option Addr) (nt c1 c2 : Nat) (fs : List Fn) (f p t : Int) (w : World) (hc : ∀ f ∈ fs, f.code.length ≤ 1048576) (hm : FnsAt w 0 a2 fs) :
    Calls Try.prog 57 #[.agg #[.slice a1 nt c1, .slice a2 fs.length c2], .agg #[.int .i64 f, .int .i64 p], .int .i64 t] w (GuessP fs f p t w) := by
  obtain ⟨w0, hw0⟩ : ∃ w0, w0 = ((w.alloc (.cells #[.slice a1 nt c1, .slice a2 fs.length c2] 34)).alloc (.cells #[.int .i64 f, .int .i64 p] 100)).alloc (.cells #[.int .i64 0, .int .i64 0, .int .i64 0, .int .i64 0] 44) := ⟨_, rfl⟩
  have hB : Below w.heap.size w w0 := by rw [hw0]; exact (((Below.refl _ _).alloc (Nat.le_refl _) _).alloc (by simp) _).alloc (by simp; omega) _
  have hX : w0.heap[w.heap.size]? = some (.cells #[.slice a1 nt c1, .slice a2 fs.length c2] 34 (0, 0)) := by rw [hw0]; exact block_old (block_old (block_new _ _ _) _) _
  have hY : w0.heap[w.heap.size + 1]? = some (.cells #[.int .i64 f, .int .i64 p] 100 (0, 0)) := by rw [hw0]; exact block_old (by simpa using block_new (w.alloc (.cells #[.slice a1 nt c1, .slice a2 fs.length c2] 34)) #[.int .i64 f, .int .i64 p] 100) _
  have hR : w0.heap[w.heap.size + 1 + 1]? = some (.cells #[.int .i64 0, .int .i64 0, .int .i64 0, .int .i64 0] 44 (0, 0)) := by rw [hw0]; simpa using block_new ((w.alloc (.cells #[.slice a1 nt c1, .slice a2 fs.length c2] 34)).alloc (.cells #[.int .i64 f, .int .i64 p] 100)) #[.int .i64 0, .int .i64 0, .int .i64 0, .int .i64 0] 44
  obtain ⟨op, hop⟩ : ∃ op, op = ((insD fs f p).getD (0, 0)).1 := ⟨_, rfl⟩
  obtain ⟨ar, har⟩ : ∃ ar, ar = ((insD fs f p).getD (0, 0)).2 := ⟨_, rfl⟩
  have hI := insAt_any a1 a2 nt c1 c2 fs f p w0 hc (hm.mono hB)
  have HP : Hid (∀ e w', ((11 ≤ op ∧ op ≤ 14 → e = .returned (.tuple #[.agg #[.int .i64 f, .int .i64 p, .int .i64 1, .int .i64 0], .bool true])) ∧ (op = 23 ∧ Takes fs t ar → e = .returned (.tuple #[.agg #[.int .i64 f, .int .i64 p, .int .i64 2, .int .i64 t], .bool true])) ∧ (¬ (11 ≤ op ∧ op ≤ 14) → ¬ (op = 23 ∧ Takes fs t ar) → e = .returned (.tuple #[.agg #[.int .i64 0, .int .i64 0, .int .i64 0, .int .i64 0], .bool false])) ∧ Below w.heap.size w w') → GuessP fs f p t w e w') := by
    show ∀ e w', _ → _
    rintro e w' ⟨h1, h2, h3, h4⟩
    rw [hop] at h1
    rw [hop, har] at h2 h3
    by_cases x : 11 ≤ ((insD fs f p).getD (0, 0)).1 ∧ ((insD fs f p).getD (0, 0)).1 ≤ 14
    · exact ⟨_, .inl ⟨x.1, x.2, rfl⟩, h1 x, h4⟩
    · by_cases y : ((insD fs f p).getD (0, 0)).1 = 23 ∧ Takes fs t ((insD fs f p).getD (0, 0)).2
      · exact ⟨_, .inr (.inl ⟨y.1, y.2, rfl⟩), h2 y, h4⟩
      · exact ⟨_, .inr (.inr ⟨x, y, rfl⟩), h3 x y, h4⟩
  rw [← hop, ← har] at hI
  clear hop har
  go_enter Try.func57, Try.ntmps57
  go_wp2_with fail
  rw [← hw0]
  clear hw0
  refine hI.mono ?_
  rintro e w1 ⟨rfl, hb1⟩
  clear hI
  have hb2 : Below w1.heap.size w1 (w1.alloc (.cells #[.int .i64 op, .int .i64 ar] 105)) := (Below.refl _ _).alloc (Nat.le_refl _) _
  have hV3 := block_new w1 #[.int .i64 op, .int .i64 ar] 105
  have hb3 := hb1.trans (hb2.mono hb1.size)
  have hX3 := block_kept hX hb3
  have hY3 := block_kept hY hb3
  have hR3 := block_kept hR hb3
  have HB3 : Hid (Below w.heap.size w (w1.alloc (.cells #[.int .i64 op, .int .i64 ar] 105))) := hB.trans (hb3.mono hB.size)
  have hm3 := hm.mono HB3.out
  have HZ1 : Hid (w0.heap.size ≤ w1.heap.size) := hb1.size
  obtain ⟨w3, hw3⟩ : ∃ w3, w3 = w1.alloc (.cells #[.int .i64 op, .int .i64 ar] 105) := ⟨_, rfl⟩
  rw [← hw3] at hV3 hX3 hY3 hR3 HB3 hm3
  have v1 := block_cell hV3
  have x1 := block_cell hX3
  have y1 := block_cell hY3
  have z1 := block_cell hR3
  have z2 := block_free hR3
  clear hb1 hb2 hb3 hX hY hR hB hV3 hX3 hY3 hm
  go_upto_region 2 with fail
  rw [← hw3]
  clear hw3
  by_cases h6 : 11 ≤ op ∧ op ≤ 14
  · have H6 : Hid (11 ≤ op ∧ op ≤ 14) := h6
    have HN5 : Hid (op ≠ 23) := by show op ≠ 23; omega
    clear h6
    go_wp2_with (go_at_call 79; refine (numberOp_yes H6.out _).mono ?_; rintro e w' ⟨rfl, rfl⟩)
    refine bodyPost_ret (v := .tuple #[.agg #[.int .i64 f, .int .i64 p, .int .i64 1, .int .i64 0], .bool true]) (by simp [results, Try.results57, go_sem, z1]) rfl (HP.out _ _ ⟨fun _ => rfl, fun h => absurd h.1 HN5.out, fun h => absurd H6.out h, ?_⟩)
    repeat (first | refine Below.setCell ?_ (by first | omega | (simp; omega) | simp) _ | with_reducible exact HB3.out | exact below_draws HB3.out _)
  have H6 : Hid (¬ (11 ≤ op ∧ op ≤ 14)) := h6
  clear h6
  go_wp2_with (go_at_call 79; refine (numberOp_no H6.out _).mono ?_; rintro e w' ⟨rfl, rfl⟩)
  by_cases h5 : op = 23
  case neg =>
    have HNT : Hid (¬ (op = 23 ∧ Takes fs t ar)) := fun h => h5 h.1
    have k5 : (op == 23) = false := by simpa using h5
    go_big_quiet (fail)
    go_wp2
    refine bodyPost_ret (v := .tuple #[.agg #[.int .i64 0, .int .i64 0, .int .i64 0, .int .i64 0], .bool false]) (by simp [results, Try.results57, go_sem, z1]) rfl (HP.out _ _ ⟨fun h => absurd h H6.out, fun h => absurd h HNT.out, fun _ _ => rfl, ?_⟩)
    repeat (first | refine Below.setCell ?_ (by first | omega | (simp; omega) | simp) _ | with_reducible exact HB3.out | exact below_draws HB3.out _)
  subst h5
  by_cases h7 : 0 ≤ t
  case neg =>
    have HNT : Hid (¬ ((23 : Int) = 23 ∧ Takes fs t ar)) := fun h => h7 h.2.1
    go_big_quiet (fail)
    go_wp2
    refine bodyPost_ret (v := .tuple #[.agg #[.int .i64 0, .int .i64 0, .int .i64 0, .int .i64 0], .bool false]) (by simp [results, Try.results57, go_sem, z1]) rfl (HP.out _ _ ⟨fun h => absurd h H6.out, fun h => absurd h HNT.out, fun _ _ => rfl, ?_⟩)
    repeat (first | refine Below.setCell ?_ (by first | omega | (simp; omega) | simp) _ | with_reducible exact HB3.out | exact below_draws HB3.out _)
  obtain ⟨t, rfl⟩ : ∃ t' : Nat, t = t' := ⟨t.toNat, by omega⟩
  by_cases h8 : t < fs.length
  case neg =>
    have HNT : Hid (¬ ((23 : Int) = 23 ∧ Takes fs t ar)) := fun h => by obtain ⟨-, -, hf, -⟩ := h; simp at hf; omega
    have g1 : (0 : Int) ≤ (t : Int) := by omega
    have g2 : (fs.length : Int) ≤ (t : Int) := by omega
    go_big_quiet (fail)
    go_wp2
    refine bodyPost_ret (v := .tuple #[.agg #[.int .i64 0, .int .i64 0, .int .i64 0, .int .i64 0], .bool false]) (by simp [results, Try.results57, go_sem, z1]) rfl (HP.out _ _ ⟨fun h => absurd h H6.out, fun h => absurd h HNT.out, fun _ _ => rfl, ?_⟩)
    repeat (first | refine Below.setCell ?_ (by first | omega | (simp; omega) | simp) _ | with_reducible exact HB3.out | exact below_draws HB3.out _)
  obtain ⟨b, off, ca, cc, rfl, -, d1, d2, d3, -⟩ := hm3 t h8
  clear d2 d3
  obtain ⟨pr, hpr⟩ : ∃ pr, pr = fs[t].params := ⟨_, rfl⟩
  rw [← hpr] at d1
  have HPR : Hid (Takes fs t ar ↔ pr = ar) := by
    show _ ↔ _
    rw [hpr]
    exact ⟨fun h => by obtain ⟨-, hf, he⟩ := h; simpa using he, fun h => ⟨by omega, by simpa using h8, by simpa using h⟩⟩
  clear hpr
  by_cases h9 : pr = ar
  · subst h9
    have HT : Hid (Takes fs t pr) := HPR.out.2 rfl
    have g1 : (0 : Int) ≤ (t : Int) := by omega
    have g2 : ¬ (fs.length : Int) ≤ (t : Int) := by omega
    go_big_quiet (fail)
    go_wp2
    refine bodyPost_ret (v := .tuple #[.agg #[.int .i64 f, .int .i64 p, .int .i64 2, .int .i64 t], .bool true]) (by simp [results, Try.results57, go_sem, z1]) rfl (HP.out _ _ ⟨fun h => absurd h H6.out, fun _ => rfl, fun _ h => absurd (by first | exact ⟨rfl, HT.out⟩ | exact ⟨trivial, HT.out⟩) h, ?_⟩)
    repeat (first | refine Below.setCell ?_ (by first | omega | (simp; omega) | simp) _ | with_reducible exact HB3.out | exact below_draws HB3.out _)
  · have HNT : Hid (¬ ((23 : Int) = 23 ∧ Takes fs t ar)) := fun h => h9 (HPR.out.1 h.2)
    have g1 : (0 : Int) ≤ (t : Int) := by omega
    have g2 : ¬ (fs.length : Int) ≤ (t : Int) := by omega
    go_big_quiet (fail)
    go_wp2
    refine bodyPost_ret (v := .tuple #[.agg #[.int .i64 0, .int .i64 0, .int .i64 0, .int .i64 0], .bool false]) (by simp [results, Try.results57, go_sem, z1]) rfl (HP.out _ _ ⟨fun h => absurd h H6.out, fun h => absurd h HNT.out, fun _ _ => rfl, ?_⟩)
    repeat (first | refine Below.setCell ?_ (by first | omega | (simp; omega) | simp) _ | with_reducible exact HB3.out | exact below_draws HB3.out _)
end Go.Proofs.Ytmjkkpmfneabjaa
