/-
  What any line does to what was read: how much it grows, and that a line of an ok module is read as what it says.
-/
import Derived.Test.YtpmkfdinkomaiaaGreatDoorGQ13
namespace Go.Proofs.YtpmkfdinkomaiaaGreatDoor
open Go.RowKit

theorem t_start (s : ByteArray) : Lib.hasPrefix (It.body (.t s)).data.toList startT.data.toList = true := by
  show Lib.hasPrefix (startT ++ s ++ ⟨#[34]⟩).data.toList startT.data.toList = true
  rw [data_app, data_app, List.append_assoc]
  exact hasPrefix_app _ _
theorem t_off (s : ByteArray) : cutOff (It.body (.t s)) startT = s ++ ⟨#[34]⟩ := by
  show cutOff (startT ++ s ++ ⟨#[34]⟩) startT = _
  rw [ByteArray.append_assoc]
  exact cutOff_app _ _
theorem t_end (s : ByteArray) : Lib.hasSuffix (s ++ ⟨#[34]⟩).data.toList [34] = true := by
  rw [data_app]
  unfold Lib.hasSuffix
  rw [List.isSuffixOf_iff_suffix]
  exact List.suffix_append _ _
theorem t_trim (s : ByteArray) : (⟨(Lib.trimSuffix (s ++ ⟨#[34]⟩).data.toList [34]).toArray⟩ : ByteArray) = s := by
  unfold Lib.trimSuffix
  rw [if_pos (t_end s), data_app]
  simp
theorem f_body (p l : Int) : (It.body (.f p l)).data.toList = 102 :: 117 :: 110 :: 99 :: 32 :: ((numText p).data.toList ++ 32 :: (numText l).data.toList) := by
  show (funcT ++ ⟨#[32]⟩ ++ numText p ++ ⟨#[32]⟩ ++ numText l).data.toList = _
  rw [data_app, data_app, data_app, data_app, List.append_assoc, List.append_assoc, List.append_assoc]
  rfl
theorem f_start (p l : Int) : Lib.hasPrefix (It.body (.f p l)).data.toList startT.data.toList = false := by rw [f_body]; rfl
theorem f_indent (p l : Int) : Lib.hasPrefix (It.body (.f p l)).data.toList indentT.data.toList = false := by rw [f_body]; rfl
theorem i_body (o a : Int) : (It.body (.i o a)).data.toList = 32 :: 32 :: (insText o a).data.toList := by
  show (indentT ++ insText o a).data.toList = _
  rw [data_app]
  rfl
theorem i_start (o a : Int) : Lib.hasPrefix (It.body (.i o a)).data.toList startT.data.toList = false := by rw [i_body]; rfl
theorem i_indent (o a : Int) : Lib.hasPrefix (It.body (.i o a)).data.toList indentT.data.toList = true := by
  show Lib.hasPrefix (indentT ++ insText o a).data.toList indentT.data.toList = true
  rw [data_app]
  exact hasPrefix_app _ _
theorem i_off (o a : Int) : cutOff (It.body (.i o a)) indentT = insText o a := cutOff_app _ _

theorem trimSuffix_size (s : ByteArray) (p : List UInt8) : (⟨(Lib.trimSuffix s.data.toList p).toArray⟩ : ByteArray).size ≤ s.size := by
  show (Lib.trimSuffix s.data.toList p).toArray.size ≤ s.data.size
  rw [List.size_toArray]
  unfold Lib.trimSuffix
  split
  · rw [List.length_take, Array.length_toList]; omega
  · rw [Array.length_toList]; exact Nat.le_refl _

/-- What was read behind a line is at most one thing more. -/
structure Grew (n : Nat) (ts : List ByteArray) (fs : List Fn) (ts' : List ByteArray) (fs' : List Fn) : Prop where
  texts : ts'.length ≤ ts.length + 1
  text : ∀ s ∈ ts', s ∈ ts ∨ s.size ≤ n
  funcs : fs'.length ≤ fs.length + 1
  code : ∀ f ∈ fs', f.code.length = 0 ∨ ∃ f0 ∈ fs, f.code.length ≤ f0.code.length + 1

theorem line_step {R base K c1 c2 : Nat} {a1 a2 : Option Addr} {ts : List ByteArray} {fs : List Fn} {cs : List (Option Addr × Nat)} {line : ByteArray} {w w' : World} {e : Ending} (h : LinePost R base K a1 c1 a2 c2 ts fs cs line w e w') :
    Below R w w' ∧ ((e = .returned (.bool true) ∧ ∃ ts' fs' a1' c1' a2' c2' cs', LineAt w' R (.map (some K)) a1' ts'.length c1' a2' fs'.length c2' ∧ ModOwn w' base a1' c1' a2' c2' ts' fs' cs' ∧ Grew line.size ts fs ts' fs' ∧ ∀ x : It, x.ok → line = x.body → (∀ o a, x = .i o a → fs ≠ []) → (ts', fs') = ap (ts, fs) x) ∨
      (e = .returned (.bool false) ∧ ∀ x : It, x.ok → line = x.body → ¬ (∀ o a, x = .i o a → fs ≠ []))) := by
  rcases h with ⟨h1, hT, -⟩ | ⟨h1, h2, ws, hW, hB, -, hI⟩ | ⟨h1, h2, ws, hW, hB, hF⟩
  · rcases hT with ⟨hs, he, a1', c1', k1, k2, k3⟩ | ⟨hs, he, rfl⟩
    · refine ⟨k3, .inl ⟨he, _, fs, a1', c1', a2, c2, cs, ?_, k2, ⟨by simp, fun s hs => ?_, by omega, fun f hf => .inr ⟨f, hf, by omega⟩⟩, fun x hx e hg => ?_⟩⟩
      · rw [List.length_append]; exact k1
      · rcases List.mem_append.1 hs with hs | hs
        · exact .inl hs
        · obtain rfl := List.mem_singleton.1 hs
          exact .inr (Nat.le_trans (trimSuffix_size _ _) (cutOff_size _ _))
      · subst e
        cases x with
        | t s => rw [t_off, t_trim]; rfl
        | f p l => rw [f_start] at h1; cases h1
        | i o a => rw [i_start] at h1; cases h1
    · refine ⟨Below.refl _ _, .inr ⟨he, fun x hx e hg => ?_⟩⟩
      subst e
      cases x with
      | t s => rw [t_off, t_end] at hs; cases hs
      | f p l => rw [f_start] at h1; cases h1
      | i o a => rw [i_start] at h1; cases h1
  · refine ⟨hB, ?_⟩
    rcases hI with ⟨op, av, fs0, f, cs0, c, c', he, rfl, rfl, hpl, k1, k2⟩ | ⟨he, hno, -⟩
    · refine .inl ⟨he, ts, _, a1, c1, a2, c2, cs0 ++ [c'], ?_, k2, ⟨by omega, fun s hs => .inl hs, by simp, fun g hg => ?_⟩, fun x hx e hg => ?_⟩
      · rw [List.length_append]
        rw [List.length_append] at k1
        exact k1
      · rcases List.mem_append.1 hg with hg | hg
        · exact .inr ⟨g, List.mem_append_left _ hg, by omega⟩
        · obtain rfl := List.mem_singleton.1 hg
          exact .inr ⟨f, by simp, by simp⟩
      · subst e
        cases x with
        | t s => rw [t_start] at h1; cases h1
        | f p l => rw [f_indent] at h2; cases h2
        | i o a =>
          obtain ⟨x1, x2, x3, x4⟩ := hx
          rw [i_off] at hW
          have hS := says_ins x1 x2 x3 x4
          rw [← hW.same (seen_ascii (ins_seen o a))] at hS
          obtain ⟨q1, rfl⟩ := hpl _ _ hS
          obtain rfl : op = o := by omega
          obtain ⟨fp, fl, fc⟩ := f
          exact (ap_ins ..).symm
    · refine .inr ⟨he, fun x hx e hg => ?_⟩
      subst e
      cases x with
      | t s => rw [t_start] at h1; cases h1
      | f p l => rw [f_indent] at h2; cases h2
      | i o a =>
        obtain ⟨x1, x2, x3, x4⟩ := hx
        rw [i_off] at hW
        have hS := says_ins x1 x2 x3 x4
        rw [← hW.same (seen_ascii (ins_seen o a))] at hS
        exact hno (hg o a rfl) _ _ hS
  · refine ⟨hB, ?_⟩
    rcases hF with ⟨p', l', a2', c2', he, hpl, k1, k2⟩ | ⟨he, hno, -⟩
    · refine .inl ⟨he, ts, _, a1, c1, a2', c2', cs ++ [(none, 0)], ?_, k2, ⟨by omega, fun s hs => .inl hs, by simp, fun g hg => ?_⟩, fun x hx e hg => ?_⟩
      · rw [List.length_append]; exact k1
      · rcases List.mem_append.1 hg with hg | hg
        · exact .inr ⟨g, hg, by omega⟩
        · obtain rfl := List.mem_singleton.1 hg
          exact .inl rfl
      · subst e
        cases x with
        | t s => rw [t_start] at h1; cases h1
        | f p l =>
          have hws : ws = [funcT, numText p, numText l] := (hW.same (seen_ascii (body_seen hx))).trans (words_three func_solid (num_solid p) (num_solid l))
          obtain ⟨rfl, rfl⟩ := hpl p l hx.1 hx.2 hws
          rfl
        | i o a => rw [i_indent] at h2; cases h2
    · refine .inr ⟨he, fun x hx e hg => ?_⟩
      subst e
      cases x with
      | t s => rw [t_start] at h1; cases h1
      | f p l =>
        have hws : ws = [funcT, numText p, numText l] := (hW.same (seen_ascii (body_seen hx))).trans (words_three func_solid (num_solid p) (num_solid l))
        exact hno p l hx.1 hx.2 hws
      | i o a => rw [i_indent] at h2; cases h2
end Go.Proofs.YtpmkfdinkomaiaaGreatDoor
