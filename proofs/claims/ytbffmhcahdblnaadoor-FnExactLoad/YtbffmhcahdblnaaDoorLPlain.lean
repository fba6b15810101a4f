/-
  Reading numbers, texts, functions and modules off a list of bytes, as plain functions, and that what is read is what the bytes of a module say.
-/
import Derived.Test.YtbffmhcahdblnaaDoorPlain4
import Derived.Laws.BytesArg
namespace Go.Proofs.YtbffmhcahdblnaaDoor

/-- A number in groups of 7 bits, at most so many; 'strict': no last group of 0 behind others. -/
def rdNum (strict : Bool) : Nat → Nat → Nat → List Int → Option (Nat × List Int)
  | 0, _, _, _ => none
  | _ + 1, _, _, [] => none
  | f + 1, i, u, x :: l =>
    if strict = true ∧ x = 0 ∧ 0 < i then none
    else if x < 128 then some (u + (x % 128).toNat * 128 ^ i, l)
    else rdNum strict f (i + 1) (u + (x % 128).toNat * 128 ^ i) l

def unzig (u : Nat) : Int := if u % 2 = 1 then -((u / 2 : Nat) : Int) - 1 else ((u / 2 : Nat) : Int)
def Byte (l : List Int) : Prop := ∀ x ∈ l, 0 ≤ x ∧ x < 256

theorem mod_mul (x a : Nat) : x % 128 * a + x / 128 * (a * 128) = x * a := by
  have h := Nat.mod_add_div x 128
  have : x * a = (x % 128 + 128 * (x / 128)) * a := by rw [h]
  rw [this, Nat.add_mul, Nat.mul_comm 128, Nat.mul_assoc, Nat.mul_comm 128 a]

theorem rdNum_groups (s : Bool) (r : List Int) : ∀ (k f x i u : Nat), x < 128 ^ (k + 1) → x ≤ f → (i = 0 ∨ 0 < x) → rdNum s (k + 1) i u (groups f x ++ r) = some (u + x * 128 ^ i, r) := by
  intro k
  induction k with
  | zero =>
    intro f x i u hx hf h0
    have hx' : x < 128 := by simpa using hx
    rw [groups_small hx']
    show rdNum s 1 i u ((x : Int) :: r) = _
    have e1 : ((x : Int) % 128).toNat = x := by omega
    rw [rdNum, if_neg (by omega), if_pos (by omega), e1]
  | succ k ih =>
    intro f x i u hx hf h0
    by_cases hs : x < 128
    · rw [groups_small hs]
      show rdNum s (k + 1 + 1) i u ((x : Int) :: r) = _
      have e1 : ((x : Int) % 128).toNat = x := by omega
      rw [rdNum, if_neg (by omega), if_pos (by omega), e1]
    · obtain ⟨f', hg, hf'⟩ := groups_big (f := f) (x := x) (by omega) hf
      rw [hg]
      show rdNum s (k + 1 + 1) i u (((x : Int) % 128 + 128) :: (groups f' (x / 128) ++ r)) = _
      have e1 : (((x : Int) % 128 + 128) % 128).toNat = x % 128 := by omega
      rw [rdNum, if_neg (by omega), if_neg (by omega), e1, ih f' (x / 128) (i + 1) _ (Nat.div_lt_of_lt_mul (by rw [Nat.pow_succ] at hx; omega)) hf' (Or.inr (by omega))]
      rw [Nat.pow_succ, Nat.add_assoc, mod_mul]

theorem rdNum_back : ∀ (k i u v : Nat) (l r : List Int), Byte l → rdNum true k i u l = some (v, r) → ∃ x, v = u + x * 128 ^ i ∧ x < 128 ^ k ∧ (0 < i → 0 < x) ∧ (∀ f, x ≤ f → l = groups f x ++ r) := by
  intro k
  induction k with
  | zero => intro i u v l r _ h; simp [rdNum] at h
  | succ k ih =>
    intro i u v l r hb h
    cases l with
    | nil => simp [rdNum] at h
    | cons y l =>
      have hy := hb y (by simp)
      rw [rdNum] at h
      by_cases h1 : true = true ∧ y = 0 ∧ 0 < i
      · rw [if_pos h1] at h; cases h
      · rw [if_neg h1] at h
        by_cases h2 : y < 128
        · rw [if_pos h2] at h
          simp only [Option.some.injEq, Prod.mk.injEq] at h
          have hp : 128 ^ (k + 1) = 128 ^ k * 128 := Nat.pow_succ ..
          have hp0 : 0 < 128 ^ k := Nat.pow_pos (by omega)
          refine ⟨(y % 128).toNat, h.1.symm, by omega, fun hi => by simp only [true_and, not_and] at h1; omega, fun f _ => ?_⟩
          rw [groups_small (by omega), ← h.2]
          show y :: l = ((y % 128).toNat : Int) :: l
          congr 1
          omega
        · rw [if_neg h2] at h
          obtain ⟨x, e1, e2, e3, e4⟩ := ih (i + 1) _ v l r (fun z hz => hb z (by simp [hz])) h
          have hx0 := e3 (by omega)
          have hp : 128 ^ (k + 1) = 128 ^ k * 128 := Nat.pow_succ ..
          refine ⟨(y % 128).toNat + 128 * x, ?_, by omega, fun _ => by omega, fun f hf => ?_⟩
          · rw [e1, Nat.pow_succ, Nat.add_mul, Nat.add_assoc, Nat.mul_comm 128 x, Nat.mul_assoc, Nat.mul_comm 128]
          · obtain ⟨f', hg, hf'⟩ := groups_big (f := f) (x := (y % 128).toNat + 128 * x) (by omega) hf
            have e5 : ((y % 128).toNat + 128 * x) / 128 = x := by omega
            rw [e5] at hg hf'
            rw [hg, e4 f' hf']
            show y :: _ = _ :: _
            congr 1
            omega

theorem zig_unzig (u : Nat) : zig (unzig u) = u := by
  unfold zig unzig
  split <;> split <;> omega
theorem unzig_zig (n : Int) : unzig (zig n) = n := by
  unfold zig unzig
  by_cases h : n < 0
  · rw [if_pos h]; split <;> omega
  · rw [if_neg h]; split <;> omega

/-- A number off the bytes. -/
def pNum (l : List Int) : Option (Int × List Int) := (rdNum true 5 0 0 l).map fun q => (unzig q.1, q.2)
theorem pNum_num {n : Int} (r : List Int) (h : Fits n) : pNum (num n ++ r) = some (n, r) := by
  unfold pNum num
  have hz : zig n < 128 ^ (4 + 1) := by unfold Fits at h; unfold zig; split <;> omega
  rw [rdNum_groups true r 4 (zig n) (zig n) 0 0 hz (Nat.le_refl _) (Or.inl rfl)]
  simp [unzig_zig]
theorem num_pNum {l r : List Int} {n : Int} (hb : Byte l) (h : pNum l = some (n, r)) : l = num n ++ r := by
  unfold pNum at h
  rw [Option.map_eq_some_iff] at h
  obtain ⟨⟨v, r'⟩, h1, h2⟩ := h
  simp only [Prod.mk.injEq] at h2
  obtain ⟨x, e1, -, -, e4⟩ := rdNum_back 5 0 0 v l r' hb h1
  have hv : v = x := by simpa using e1
  subst hv
  unfold num
  rw [← h2.1, zig_unzig, ← h2.2]
  exact e4 v (Nat.le_refl _)
end Go.Proofs.YtbffmhcahdblnaaDoor
