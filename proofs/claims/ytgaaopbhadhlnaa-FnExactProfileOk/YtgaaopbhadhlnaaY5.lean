/-
  siteOk: whether a site may have been watched in runs of a module.
-/
import Derived.Test.YtgaaopbhadhlnaaY4
namespace Go.Proofs.Ytgaaopbhadhlnaa
open Go.RowKit

section
open Classical
/-- A truth as a bool. -/
noncomputable def pB (P : Prop) : Bool := decide P
theorem pB_yes {P : Prop} (h : P) : pB P = true := by simpa [pB] using h
theorem pB_no {P : Prop} (h : ¬ P) : pB P = false := by simpa [pB] using h
end

/-- What may be seen at an instruction. -/
def OpP (n : Nat) (op seen target : Int) : Prop := (op = 23 ∧ ((seen = 1 ∧ 0 ≤ target ∧ target < n) ∨ (seen = 2 ∧ target = 0))) ∨ (11 ≤ op ∧ op ≤ 14 ∧ 1 ≤ seen ∧ seen ≤ 3 ∧ target = 0)
/-- The site is at one of the module's instructions, and tells what may be seen there. -/
def SiteP (fs : List Fn) (s : Si) : Prop := 0 ≤ s.f ∧ 0 ≤ s.pc ∧ ∃ (hf : s.f.toNat < fs.length) (hp : s.pc.toNat < fs[s.f.toNat].code.length), OpP fs.length (fs[s.f.toNat].code[s.pc.toNat].1) s.seen s.target

theorem site_iff {fs : List Fn} {f p : Nat} {sn tg : Int} (hf : f < fs.length) (hp : p < fs[f].code.length) : SiteP fs ⟨f, p, sn, tg⟩ ↔ OpP fs.length (fs[f].code[p].1) sn tg :=
  ⟨fun h => h.2.2.2.2, fun h => ⟨Int.natCast_nonneg _, Int.natCast_nonneg _, hf, hp, h⟩⟩

theorem numberOp_yes {op : Int} (h : 11 ≤ op ∧ op ≤ 14) (w : World) : Calls Try.prog 47 #[.int .i64 op] w fun e w' => e = .returned (.bool true) ∧ w' = w := by
  have := numberOp_any op w
  rwa [decide_eq_true h] at this
theorem numberOp_no {op : Int} (h : ¬ (11 ≤ op ∧ op ≤ 14)) (w : World) : Calls Try.prog 47 #[.int .i64 op] w fun e w' => e = .returned (.bool false) ∧ w' = w := by
  have := numberOp_any op w
  rwa [decide_eq_false h] at this

set_option maxRecDepth 100000 in
set_option maxHeartbeats 4000000 in
theorem siteOk_any (a1 a2 : Option Addr) (nt c1 c2 : Nat) (fs : List Fn) (s : Si) (w : World) (hc : ∀ f ∈ fs, f.code.length ≤ 1048576) (hm : FnsAt w 0 a2 fs) :
    Calls Try.prog 34 #[.agg #[.slice a1 nt c1, .slice a2 fs.length c2], .agg #[.int .i64 s.f, .int .i64 s.pc, .int .i64 s.seen, .int .i64 s.target]] w fun e w' => e = .returned (.bool (pB (SiteP fs s))) ∧ Below w.heap.size w w' := by
  obtain ⟨sf, sp, sn, tg⟩ := s
  dsimp only
  have hB : Below w.heap.size w ((w.alloc (.cells #[.slice a1 nt c1, .slice a2 fs.length c2] 32)).alloc (.cells #[.int .i64 sf, .int .i64 sp, .int .i64 sn, .int .i64 tg] 40)) := ((Below.refl _ _).alloc (Nat.le_refl _) _).alloc (by simp) _
  by_cases h1 : sf < 0
  · rw [pB_no (fun h => by have := h.1; dsimp only at this; omega)]
    go_enter Try.func34, Try.ntmps34
    go_wp2
    go_big_quiet (fail)
    go_wp2
    go_ret
    exact ⟨rfl, below_draws hB _⟩
  obtain ⟨f, rfl⟩ : ∃ f : Nat, sf = f := ⟨sf.toNat, by omega⟩
  by_cases h2 : f < fs.length
  case neg =>
    rw [pB_no (fun h => by obtain ⟨-, -, hf, -⟩ := h; simp at hf; omega)]
    go_enter Try.func34, Try.ntmps34
    go_wp2
    have g1 : ¬ ((f : Int) < 0) := by omega
    have g2 : (fs.length : Int) ≤ (f : Int) := by omega
    go_big_quiet (fail)
    go_wp2
    go_ret
    exact ⟨rfl, below_draws hB _⟩
  obtain ⟨b, off, ca, cc, rfl, -, d1, d2, d3, hcode⟩ := hm f h2
  have hcl := hc _ (List.getElem_mem h2)
  have d3' := cell_later hB d3
  clear d1 d2 d3
  by_cases h3 : sp < 0
  · rw [pB_no (fun h => by have := h.2.1; dsimp only at this; omega)]
    go_enter Try.func34, Try.ntmps34
    go_wp2
    have g1 : ¬ ((f : Int) < 0) := by omega
    have g2 : ¬ ((fs.length : Int) ≤ (f : Int)) := by omega
    go_big_quiet (fail)
    go_wp2
    go_ret
    exact ⟨rfl, below_draws hB _⟩
  obtain ⟨p, rfl⟩ : ∃ p : Nat, sp = p := ⟨sp.toNat, by omega⟩
  by_cases h4 : p < fs[f].code.length
  case neg =>
    rw [pB_no (fun h => by obtain ⟨-, -, hf, hp, -⟩ := h; simp at hp; omega)]
    go_enter Try.func34, Try.ntmps34
    go_wp2
    have g1 : ¬ ((f : Int) < 0) := by omega
    have g2 : ¬ ((fs.length : Int) ≤ (f : Int)) := by omega
    have g3 : ¬ ((p : Int) < 0) := by omega
    have g4 : (fs[f].code.length : Int) ≤ (p : Int) := by omega
    go_big_quiet (fail)
    go_wp2
    go_ret
    exact ⟨rfl, below_draws hB _⟩
  obtain ⟨b2, off2, rfl, -, e1, e2⟩ := hcode p h4
  have e1' := cell_later hB e1
  clear e1 e2 hcode
  have hiff := site_iff (sn := sn) (tg := tg) h2 h4
  obtain ⟨op, hop⟩ : ∃ op, op = fs[f].code[p].1 := ⟨_, rfl⟩
  rw [← hop] at e1' hiff
  have HI : Hid (SiteP fs ⟨f, p, sn, tg⟩ ↔ OpP fs.length op sn tg) := hiff
  clear hiff hop
  by_cases h5 : op = 23
  · subst h5
    by_cases h6 : sn = 1
    · subst h6
      by_cases h7 : 0 ≤ tg
      · by_cases h8 : tg < fs.length
        · rw [pB_yes (HI.out.2 (.inl ⟨rfl, .inl ⟨rfl, h7, h8⟩⟩))]
          go_enter Try.func34, Try.ntmps34
          go_wp2
          have g1 : ¬ ((f : Int) < 0) := by omega
          have g2 : ¬ ((fs.length : Int) ≤ (f : Int)) := by omega
          have g3 : ¬ ((p : Int) < 0) := by omega
          have g4 : ¬ ((fs[f].code.length : Int) ≤ (p : Int)) := by omega
          go_big_quiet (fail)
          go_wp2
          have g1 : ¬ ((f : Int) < 0) := by omega
          have g2 : ¬ ((fs.length : Int) ≤ (f : Int)) := by omega
          have g3 : ¬ ((p : Int) < 0) := by omega
          have g4 : ¬ ((fs[f].code.length : Int) ≤ (p : Int)) := by omega
          go_big_quiet (fail)
          go_wp2
          go_ret
          exact ⟨by first | rfl | exact ret_bool (by first | rfl | (simp; omega) | (symm; simp; omega)), below_draws hB _⟩
        · rw [pB_no (fun h => by have := HI.out.1 h; unfold OpP at this; omega)]
          go_enter Try.func34, Try.ntmps34
          go_wp2
          have g1 : ¬ ((f : Int) < 0) := by omega
          have g2 : ¬ ((fs.length : Int) ≤ (f : Int)) := by omega
          have g3 : ¬ ((p : Int) < 0) := by omega
          have g4 : ¬ ((fs[f].code.length : Int) ≤ (p : Int)) := by omega
          go_big_quiet (fail)
          go_wp2
          have g1 : ¬ ((f : Int) < 0) := by omega
          have g2 : ¬ ((fs.length : Int) ≤ (f : Int)) := by omega
          have g3 : ¬ ((p : Int) < 0) := by omega
          have g4 : ¬ ((fs[f].code.length : Int) ≤ (p : Int)) := by omega
          go_big_quiet (fail)
          go_wp2
          go_ret
          exact ⟨by first | rfl | exact ret_bool (by first | rfl | (simp; omega) | (symm; simp; omega)), below_draws hB _⟩
      · rw [pB_no (fun h => by have := HI.out.1 h; unfold OpP at this; omega)]
        go_enter Try.func34, Try.ntmps34
        go_wp2
        have g1 : ¬ ((f : Int) < 0) := by omega
        have g2 : ¬ ((fs.length : Int) ≤ (f : Int)) := by omega
        have g3 : ¬ ((p : Int) < 0) := by omega
        have g4 : ¬ ((fs[f].code.length : Int) ≤ (p : Int)) := by omega
        go_big_quiet (fail)
        go_wp2
        have g1 : ¬ ((f : Int) < 0) := by omega
        have g2 : ¬ ((fs.length : Int) ≤ (f : Int)) := by omega
        have g3 : ¬ ((p : Int) < 0) := by omega
        have g4 : ¬ ((fs[f].code.length : Int) ≤ (p : Int)) := by omega
        go_big_quiet (fail)
        go_wp2
        go_ret
        exact ⟨by first | rfl | exact ret_bool (by first | rfl | (simp; omega) | (symm; simp; omega)), below_draws hB _⟩
    · by_cases h7 : sn = 2
      · subst h7
        by_cases h8 : tg = 0
        · subst h8
          rw [pB_yes (HI.out.2 (.inl ⟨rfl, .inr ⟨rfl, rfl⟩⟩))]
          go_enter Try.func34, Try.ntmps34
          go_wp2
          have g1 : ¬ ((f : Int) < 0) := by omega
          have g2 : ¬ ((fs.length : Int) ≤ (f : Int)) := by omega
          have g3 : ¬ ((p : Int) < 0) := by omega
          have g4 : ¬ ((fs[f].code.length : Int) ≤ (p : Int)) := by omega
          go_big_quiet (fail)
          go_wp2
          have g1 : ¬ ((f : Int) < 0) := by omega
          have g2 : ¬ ((fs.length : Int) ≤ (f : Int)) := by omega
          have g3 : ¬ ((p : Int) < 0) := by omega
          have g4 : ¬ ((fs[f].code.length : Int) ≤ (p : Int)) := by omega
          go_big_quiet (fail)
          go_wp2
          go_ret
          exact ⟨by first | rfl | exact ret_bool (by first | rfl | (simp; omega) | (symm; simp; omega)), below_draws hB _⟩
        · rw [pB_no (fun h => by have := HI.out.1 h; unfold OpP at this; omega)]
          go_enter Try.func34, Try.ntmps34
          go_wp2
          have g1 : ¬ ((f : Int) < 0) := by omega
          have g2 : ¬ ((fs.length : Int) ≤ (f : Int)) := by omega
          have g3 : ¬ ((p : Int) < 0) := by omega
          have g4 : ¬ ((fs[f].code.length : Int) ≤ (p : Int)) := by omega
          go_big_quiet (fail)
          go_wp2
          have g1 : ¬ ((f : Int) < 0) := by omega
          have g2 : ¬ ((fs.length : Int) ≤ (f : Int)) := by omega
          have g3 : ¬ ((p : Int) < 0) := by omega
          have g4 : ¬ ((fs[f].code.length : Int) ≤ (p : Int)) := by omega
          go_big_quiet (fail)
          go_wp2
          go_ret
          exact ⟨by first | rfl | exact ret_bool (by first | rfl | (simp; omega) | (symm; simp; omega)), below_draws hB _⟩
      · rw [pB_no (fun h => by have := HI.out.1 h; unfold OpP at this; omega)]
        go_enter Try.func34, Try.ntmps34
        go_wp2
        have g1 : ¬ ((f : Int) < 0) := by omega
        have g2 : ¬ ((fs.length : Int) ≤ (f : Int)) := by omega
        have g3 : ¬ ((p : Int) < 0) := by omega
        have g4 : ¬ ((fs[f].code.length : Int) ≤ (p : Int)) := by omega
        go_big_quiet (fail)
        go_wp2
        have g1 : ¬ ((f : Int) < 0) := by omega
        have g2 : ¬ ((fs.length : Int) ≤ (f : Int)) := by omega
        have g3 : ¬ ((p : Int) < 0) := by omega
        have g4 : ¬ ((fs[f].code.length : Int) ≤ (p : Int)) := by omega
        go_big_quiet (fail)
        go_wp2
        go_ret
        exact ⟨by first | rfl | exact ret_bool (by first | rfl | (simp; omega) | (symm; simp; omega)), below_draws hB _⟩
  · by_cases h6 : 11 ≤ op ∧ op ≤ 14
    · have H6 : Hid (11 ≤ op ∧ op ≤ 14) := h6
      by_cases h7 : 1 ≤ sn
      · by_cases h8 : sn ≤ 3
        · by_cases h9 : tg = 0
          · subst h9
            rw [pB_yes (HI.out.2 (.inr ⟨h6.1, h6.2, h7, h8, rfl⟩))]
            clear h6
            go_enter Try.func34, Try.ntmps34
            go_wp2
            have g1 : ¬ ((f : Int) < 0) := by omega
            have g2 : ¬ ((fs.length : Int) ≤ (f : Int)) := by omega
            have g3 : ¬ ((p : Int) < 0) := by omega
            have g4 : ¬ ((fs[f].code.length : Int) ≤ (p : Int)) := by omega
            go_big_quiet (fail)
            go_wp2
            have g1 : ¬ ((f : Int) < 0) := by omega
            have g2 : ¬ ((fs.length : Int) ≤ (f : Int)) := by omega
            have g3 : ¬ ((p : Int) < 0) := by omega
            have g4 : ¬ ((fs[f].code.length : Int) ≤ (p : Int)) := by omega
            go_big_quiet (fail)
            go_wp2_with (go_at_call 47; refine (numberOp_yes H6.out _).mono ?_; rintro e w' ⟨rfl, rfl⟩)
            go_ret
            exact ⟨by first | rfl | exact ret_bool (by first | rfl | (simp; omega) | (symm; simp; omega)), below_draws hB _⟩
          · rw [pB_no (fun h => by have := HI.out.1 h; unfold OpP at this; omega)]
            clear h6
            go_enter Try.func34, Try.ntmps34
            go_wp2
            have g1 : ¬ ((f : Int) < 0) := by omega
            have g2 : ¬ ((fs.length : Int) ≤ (f : Int)) := by omega
            have g3 : ¬ ((p : Int) < 0) := by omega
            have g4 : ¬ ((fs[f].code.length : Int) ≤ (p : Int)) := by omega
            go_big_quiet (fail)
            go_wp2
            have g1 : ¬ ((f : Int) < 0) := by omega
            have g2 : ¬ ((fs.length : Int) ≤ (f : Int)) := by omega
            have g3 : ¬ ((p : Int) < 0) := by omega
            have g4 : ¬ ((fs[f].code.length : Int) ≤ (p : Int)) := by omega
            go_big_quiet (fail)
            go_wp2_with (go_at_call 47; refine (numberOp_yes H6.out _).mono ?_; rintro e w' ⟨rfl, rfl⟩)
            go_ret
            exact ⟨by first | rfl | exact ret_bool (by first | rfl | (simp; omega) | (symm; simp; omega)), below_draws hB _⟩
        · rw [pB_no (fun h => by have := HI.out.1 h; unfold OpP at this; omega)]
          clear h6
          go_enter Try.func34, Try.ntmps34
          go_wp2
          have g1 : ¬ ((f : Int) < 0) := by omega
          have g2 : ¬ ((fs.length : Int) ≤ (f : Int)) := by omega
          have g3 : ¬ ((p : Int) < 0) := by omega
          have g4 : ¬ ((fs[f].code.length : Int) ≤ (p : Int)) := by omega
          go_big_quiet (fail)
          go_wp2
          have g1 : ¬ ((f : Int) < 0) := by omega
          have g2 : ¬ ((fs.length : Int) ≤ (f : Int)) := by omega
          have g3 : ¬ ((p : Int) < 0) := by omega
          have g4 : ¬ ((fs[f].code.length : Int) ≤ (p : Int)) := by omega
          go_big_quiet (fail)
          go_wp2_with (go_at_call 47; refine (numberOp_yes H6.out _).mono ?_; rintro e w' ⟨rfl, rfl⟩)
          go_ret
          exact ⟨by first | rfl | exact ret_bool (by first | rfl | (simp; omega) | (symm; simp; omega)), below_draws hB _⟩
      · rw [pB_no (fun h => by have := HI.out.1 h; unfold OpP at this; omega)]
        clear h6
        go_enter Try.func34, Try.ntmps34
        go_wp2
        have g1 : ¬ ((f : Int) < 0) := by omega
        have g2 : ¬ ((fs.length : Int) ≤ (f : Int)) := by omega
        have g3 : ¬ ((p : Int) < 0) := by omega
        have g4 : ¬ ((fs[f].code.length : Int) ≤ (p : Int)) := by omega
        go_big_quiet (fail)
        go_wp2
        have g1 : ¬ ((f : Int) < 0) := by omega
        have g2 : ¬ ((fs.length : Int) ≤ (f : Int)) := by omega
        have g3 : ¬ ((p : Int) < 0) := by omega
        have g4 : ¬ ((fs[f].code.length : Int) ≤ (p : Int)) := by omega
        go_big_quiet (fail)
        go_wp2_with (go_at_call 47; refine (numberOp_yes H6.out _).mono ?_; rintro e w' ⟨rfl, rfl⟩)
        go_ret
        exact ⟨by first | rfl | exact ret_bool (by first | rfl | (simp; omega) | (symm; simp; omega)), below_draws hB _⟩
    · have H6 : Hid (¬ (11 ≤ op ∧ op ≤ 14)) := h6
      rw [pB_no (fun h => by have := HI.out.1 h; unfold OpP at this; omega)]
      clear h6
      go_enter Try.func34, Try.ntmps34
      go_wp2
      have g1 : ¬ ((f : Int) < 0) := by omega
      have g2 : ¬ ((fs.length : Int) ≤ (f : Int)) := by omega
      have g3 : ¬ ((p : Int) < 0) := by omega
      have g4 : ¬ ((fs[f].code.length : Int) ≤ (p : Int)) := by omega
      go_big_quiet (fail)
      go_wp2
      have g1 : ¬ ((f : Int) < 0) := by omega
      have g2 : ¬ ((fs.length : Int) ≤ (f : Int)) := by omega
      have g3 : ¬ ((p : Int) < 0) := by omega
      have g4 : ¬ ((fs[f].code.length : Int) ≤ (p : Int)) := by omega
      go_big_quiet (fail)
      go_wp2_with (go_at_call 47; refine (numberOp_no H6.out _).mono ?_; rintro e w' ⟨rfl, rfl⟩)
      go_ret
      exact ⟨by first | rfl | exact ret_bool (by first | rfl | (simp; omega) | (symm; simp; omega)), below_draws hB _⟩
end Go.Proofs.Ytgaaopbhadhlnaa
