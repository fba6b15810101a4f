/-
  The lines of a module that is ok: what bytes they hold, and what cutting them gives.
  What the program's line reader makes of a line of a module that is ok.
-/
import Derived.Test.YtpmkfdinkomaiaaGreatDoorGQ12
namespace Go.Proofs.YtpmkfdinkomaiaaGreatDoor
open Go.RowKit

/-- A line without its end. -/
def It.body : It → ByteArray
  | .t s => startT ++ s ++ ⟨#[34]⟩
  | .f p l => funcT ++ ⟨#[32]⟩ ++ numText p ++ ⟨#[32]⟩ ++ numText l
  | .i o a => indentT ++ insText o a
theorem line_body (x : It) : x.line.data.toList = x.body.data.toList ++ [10] := by
  cases x with
  | t s => simp only [It.line, It.body, lineT, startT, data_app, List.append_assoc]; rfl
  | f p l => simp only [It.line, It.body, lineF, funcT, data_app, List.append_assoc]; rfl
  | i o a => simp only [It.line, It.body, lineI, indentT, data_app, List.append_assoc]
def It.ok : It → Prop
  | .t s => textB s = true
  | .f p l => Fits p ∧ Fits l
  | .i o a => 1 ≤ o ∧ o ≤ 26 ∧ Fits a ∧ (bareB o = true → a = 0)
/-- A byte that can be seen, or a blank. -/
def Seen (l : List UInt8) : Prop := ∀ b ∈ l, 32 ≤ b.toNat ∧ b.toNat ≤ 126
theorem Seen.app {a b : List UInt8} (h : Seen a) (k : Seen b) : Seen (a ++ b) := fun x hx => by
  rcases List.mem_append.1 hx with hx | hx
  · exact h x hx
  · exact k x hx
/-- .. and no blank. -/
def Solid (l : List UInt8) : Prop := ∀ b ∈ l, 33 ≤ b.toNat ∧ b.toNat ≤ 126
theorem Solid.seen {l : List UInt8} (h : Solid l) : Seen l := fun b hb => ⟨by have := (h b hb).1; omega, (h b hb).2⟩
theorem num_solid (n : Int) : Solid (numText n).data.toList := by
  intro b hb
  rcases Int.lt_or_le n 0 with h | h
  · obtain ⟨u, rfl⟩ : ∃ u : Nat, n = -(u : Int) := ⟨n.natAbs, by omega⟩
    rw [numText_neg u (by omega)] at hb
    simp only [List.mem_cons] at hb
    rcases hb with rfl | hb
    · decide
    · have := dec_digs u b hb; omega
  · obtain ⟨u, rfl⟩ : ∃ u : Nat, n = (u : Int) := ⟨n.toNat, by omega⟩
    rw [numText_pos u] at hb
    have := dec_digs u b (by simpa using hb)
    omega
theorem word_solid (k : Nat) : Solid (words.getD k ⟨#[]⟩).data.toList := by
  have hall : ∀ s ∈ words, ∀ b ∈ s.data.toList, 33 ≤ b.toNat ∧ b.toNat ≤ 126 := by decide
  by_cases h : k < words.length
  · have e : words.getD k ⟨#[]⟩ = words[k] := by rw [List.getD_eq_getElem?_getD, List.getElem?_eq_getElem h]; rfl
    rw [e]
    exact hall _ (List.getElem_mem h)
  · rw [List.getD_eq_getElem?_getD, List.getElem?_eq_none (by omega)]
    intro b hb
    simp at hb
theorem ins_seen (o a : Int) : Seen (insText o a).data.toList := by
  unfold insText
  split
  · intro b hb; simp at hb
  · split
    · exact (word_solid _).seen
    · rw [data_app, data_app]
      exact ((word_solid _).seen.app (fun b hb => by obtain rfl : b = 32 := by simpa using hb
                                                     decide)).app (num_solid a).seen
theorem text_seen {s : ByteArray} (h : textB s = true) : Seen s.data.toList := by
  unfold textB at h
  simp only [Bool.and_eq_true, decide_eq_true_eq, List.all_eq_true] at h
  intro b hb
  have := h.2 b hb
  unfold byteB at this
  simp only [Bool.and_eq_true, decide_eq_true_eq] at this
  exact this.1
theorem start_seen : Seen startT.data.toList := by unfold Seen; decide
theorem func_solid : Solid funcT.data.toList := by unfold Solid; decide
theorem indent_seen : Seen indentT.data.toList := by unfold Seen; decide
theorem blank_seen : Seen (⟨#[32]⟩ : ByteArray).data.toList := by unfold Seen; decide
theorem quote_seen : Seen (⟨#[34]⟩ : ByteArray).data.toList := by unfold Seen; decide
theorem seen_app {a b : ByteArray} (h : Seen a.data.toList) (k : Seen b.data.toList) : Seen (a ++ b).data.toList := by rw [data_app]; exact h.app k
theorem body_seen {x : It} (h : x.ok) : Seen x.body.data.toList := by
  cases x with
  | t s => exact seen_app (seen_app start_seen (text_seen h)) quote_seen
  | f p l => exact seen_app (seen_app (seen_app (seen_app func_solid.seen blank_seen) (num_solid p).seen) blank_seen) (num_solid l).seen
  | i o a => exact seen_app indent_seen (ins_seen o a)

theorem insB_bare {nt nf loc nc op a : Int} (h : insB nt nf loc nc op a = true) (hb : bareB op = true) : a = 0 := by
  unfold bareB at hb
  simp only [Bool.or_eq_true, Bool.and_eq_true, decide_eq_true_eq] at hb
  unfold insB at h
  repeat' split at h
  all_goals first
    | omega
    | (simp at h; omega)
theorem items_ok {ts : List ByteArray} {fs : List Fn} (h : modB ts fs = true) : ∀ x ∈ items ts fs, x.ok := by
  have hO := okMod h
  unfold modB at h
  simp only [Bool.and_eq_true, decide_eq_true_eq, List.all_eq_true] at h
  intro x hx
  rcases List.mem_append.1 hx with hx | hx
  · obtain ⟨s, hs, rfl⟩ := List.mem_map.1 hx
    exact h.1.2 s hs
  · obtain ⟨f, hf, hx⟩ := List.mem_flatMap.1 hx
    rcases List.mem_cons.1 hx with rfl | hx
    · exact ⟨hO.params f hf, hO.locals f hf⟩
    · obtain ⟨y, hy, rfl⟩ := List.mem_map.1 hx
      have hfn := h.2 f hf
      unfold fnB at hfn
      simp only [Bool.and_eq_true, decide_eq_true_eq, List.all_eq_true] at hfn
      have hins := hfn.2 y hy
      have hr : ¬ (y.1 < 1 ∨ 26 < y.1) := fun q => by rw [insB_out q] at hins; cases hins
      exact ⟨by omega, by omega, (hO.code f hf y hy).2, insB_bare hins⟩
end Go.Proofs.YtpmkfdinkomaiaaGreatDoor

namespace Go.Proofs.YtpmkfdinkomaiaaGreatDoor
open Go.RowKit

theorem index_app (c : UInt8) (l : List UInt8) : ∀ p : List UInt8, c ∉ p → Lib.index (p ++ c :: l) [c] = p.length := by
  intro p
  induction p with
  | nil => intro _; simp [Lib.index]
  | cons b p ih =>
    intro h
    have hb : (c == b) = false := by
      rw [beq_eq_false_iff_ne]
      intro e; subst e; simp at h
    have hi := ih (fun q => h (List.mem_cons_of_mem _ q))
    rw [List.cons_append, Lib.index, hi]
    have h1 : [c].isPrefixOf (b :: (p ++ c :: l)) = false := by simp [List.isPrefixOf, hb]
    have h2 : ((p.length : Int) == -1) = false := by rw [beq_eq_false_iff_ne]; omega
    rw [h1, h2]
    simp
/-- A text cut at the first of a byte. -/
theorem cut_app {c : UInt8} {p l : List UInt8} (h : c ∉ p) : Lib.cut (p ++ c :: l) [c] = (p, l, true) := by
  unfold Lib.cut
  rw [index_app c l p h, if_pos (by omega)]
  simp
theorem seen_no_end {l : List UInt8} (h : Seen l) : (10 : UInt8) ∉ l := fun hm => by
  have := (h 10 hm).1
  have e : (10 : UInt8).toNat = 10 := rfl
  omega
theorem solid_no_blank {l : List UInt8} (h : Solid l) : (32 : UInt8) ∉ l := fun hm => by
  have := (h 32 hm).1
  have e : (32 : UInt8).toNat = 32 := rfl
  omega
/-- The first line is cut off. -/
theorem cut_line {x : It} (h : x.ok) (its : List It) : Lib.cut (bytesOf (x :: its)) [10] = (x.body.data.toList, bytesOf its, true) := by
  rw [bytes_cons, line_body, List.append_assoc, List.singleton_append]
  exact cut_app (seen_no_end (body_seen h))

theorem seen_ascii {s : ByteArray} (h : Seen s.data.toList) : Ascii s := fun k hk => by
  have := (h s[k] (by rw [ByteArray.getElem_eq_getElem_data]; exact Array.getElem_mem_toList _)).2
  omega
theorem hasPrefix_app (p l : List UInt8) : Lib.hasPrefix (p ++ l) p = true := by
  unfold Lib.hasPrefix
  rw [List.isPrefixOf_iff_prefix]
  exact List.prefix_append _ _
theorem cutOff_app (p s : ByteArray) : cutOff (p ++ s) p = s := by
  unfold cutOff Lib.trimPrefix
  rw [data_app, if_pos (hasPrefix_app _ _)]
  simp
theorem words_two {a b : ByteArray} (ha : Solid a.data.toList) (hb : Solid b.data.toList) : cutsB 32 (a ++ ⟨#[32]⟩ ++ b) = [a, b] := by
  unfold cutsB
  rw [data_app, data_app, List.append_assoc]
  show List.map _ (cuts 32 (a.data.toList ++ 32 :: b.data.toList)) = _
  rw [cuts_app 32 _ _ (solid_no_blank ha), cuts_none 32 _ (solid_no_blank hb)]
  simp
theorem words_three {a b c : ByteArray} (ha : Solid a.data.toList) (hb : Solid b.data.toList) (hc : Solid c.data.toList) : cutsB 32 (a ++ ⟨#[32]⟩ ++ b ++ ⟨#[32]⟩ ++ c) = [a, b, c] := by
  unfold cutsB
  rw [data_app, data_app, data_app, data_app, List.append_assoc, List.append_assoc, List.append_assoc]
  show List.map _ (cuts 32 (a.data.toList ++ 32 :: (b.data.toList ++ 32 :: c.data.toList))) = _
  rw [cuts_app 32 _ _ (solid_no_blank ha), cuts_app 32 _ _ (solid_no_blank hb), cuts_none 32 _ (solid_no_blank hc)]
  simp
theorem words_single {a : ByteArray} (ha : Solid a.data.toList) : cutsB 32 a = [a] := by
  unfold cutsB
  rw [cuts_none 32 _ (solid_no_blank ha)]
  simp
/-- What the words of an instruction's text say. -/
theorem says_ins {o a : Int} (h1 : 1 ≤ o) (h2 : o ≤ 26) (hA : Fits a) (hb : bareB o = true → a = 0) : SaysIns (cutsB 32 (insText o a)) o.toNat a := by
  have hl : o.toNat < words.length := by simp [words]; omega
  have hw : words[o.toNat]? = some (words.getD o.toNat ⟨#[]⟩) := by rw [List.getD_eq_getElem?_getD, List.getElem?_eq_getElem hl]; rfl
  refine ⟨words.getD o.toNat ⟨#[]⟩, by omega, by omega, hw, ?_⟩
  unfold insText
  rw [if_neg (by omega)]
  by_cases hbare : bareB o = true
  · rw [if_pos hbare]
    exact .inl ⟨hb hbare, words_single (word_solid _)⟩
  · rw [if_neg hbare]
    exact .inr ⟨hA, words_two (word_solid _) (num_solid a)⟩

/-- The line is read as what it says. -/
theorem line_read {R base K c1 c2 : Nat} {a1 a2 : Option Addr} {ts : List ByteArray} {fs : List Fn} {cs : List (Option Addr × Nat)} {x : It} {w w' : World} {e : Ending} (hx : x.ok) (hi : ∀ o a, x = .i o a → fs ≠ []) (h : LinePost R base K a1 c1 a2 c2 ts fs cs x.body w e w') :
    e = .returned (.bool true) ∧ Below R w w' ∧ ∃ a1' c1' a2' c2' cs', LineAt w' R (.map (some K)) a1' (ap (ts, fs) x).1.length c1' a2' (ap (ts, fs) x).2.length c2' ∧ ModOwn w' base a1' c1' a2' c2' (ap (ts, fs) x).1 (ap (ts, fs) x).2 cs' := by
  cases x with
  | t s =>
    have hp : Lib.hasPrefix (It.body (.t s)).data.toList startT.data.toList = true := by
      show Lib.hasPrefix (startT ++ s ++ ⟨#[34]⟩).data.toList startT.data.toList = true
      rw [data_app, data_app, List.append_assoc]
      exact hasPrefix_app _ _
    have hc : cutOff (It.body (.t s)) startT = s ++ ⟨#[34]⟩ := by
      show cutOff (startT ++ s ++ ⟨#[34]⟩) startT = _
      rw [ByteArray.append_assoc]
      exact cutOff_app _ _
    have hsf : Lib.hasSuffix (s ++ ⟨#[34]⟩).data.toList [34] = true := by
      rw [data_app]
      unfold Lib.hasSuffix
      rw [List.isSuffixOf_iff_suffix]
      exact List.suffix_append _ _
    have htr : (⟨(Lib.trimSuffix (s ++ ⟨#[34]⟩).data.toList [34]).toArray⟩ : ByteArray) = s := by
      unfold Lib.trimSuffix
      rw [if_pos hsf, data_app]
      simp
    rcases h with ⟨-, hT, -⟩ | ⟨h, -⟩ | ⟨h, -⟩
    · rw [hc] at hT
      rcases hT with ⟨-, he, a1', c1', k1, k2, k3⟩ | ⟨h, -⟩
      · rw [htr] at k2
        refine ⟨he, k3, a1', c1', a2, c2, cs, ?_, k2⟩
        show LineAt w' R (.map (some K)) a1' (ts ++ [s]).length c1' a2 fs.length c2
        rw [List.length_append]
        exact k1
      · rw [hsf] at h; cases h
    · rw [hp] at h; cases h
    · rw [hp] at h; cases h
  | f p l =>
    have hb : (It.body (.f p l)).data.toList = 102 :: 117 :: 110 :: 99 :: 32 :: ((numText p).data.toList ++ 32 :: (numText l).data.toList) := by
      show (funcT ++ ⟨#[32]⟩ ++ numText p ++ ⟨#[32]⟩ ++ numText l).data.toList = _
      rw [data_app, data_app, data_app, data_app, List.append_assoc, List.append_assoc, List.append_assoc]
      rfl
    have hp : Lib.hasPrefix (It.body (.f p l)).data.toList startT.data.toList = false := by rw [hb]; rfl
    have hq : Lib.hasPrefix (It.body (.f p l)).data.toList indentT.data.toList = false := by rw [hb]; rfl
    rcases h with ⟨h, -⟩ | ⟨-, h, -⟩ | ⟨-, -, ws, hW, hB, hF⟩
    · rw [hp] at h; cases h
    · rw [hq] at h; cases h
    · have hws : ws = [funcT, numText p, numText l] := (hW.same (seen_ascii (body_seen hx))).trans (words_three func_solid (num_solid p) (num_solid l))
      rcases hF with ⟨p', l', a2', c2', he, hpl, k1, k2⟩ | ⟨-, h, -⟩
      · obtain ⟨rfl, rfl⟩ := hpl p l hx.1 hx.2 hws
        refine ⟨he, hB, a1, c1, a2', c2', cs ++ [(none, 0)], ?_, k2⟩
        show LineAt w' R (.map (some K)) a1 ts.length c1 a2' (fs ++ [(⟨p', l', []⟩ : Fn)]).length c2'
        rw [List.length_append]
        exact k1
      · exact absurd hws (h p l hx.1 hx.2)
  | i o a =>
    have hb : (It.body (.i o a)).data.toList = 32 :: 32 :: (insText o a).data.toList := by
      show (indentT ++ insText o a).data.toList = _
      rw [data_app]
      rfl
    have hp : Lib.hasPrefix (It.body (.i o a)).data.toList startT.data.toList = false := by rw [hb]; rfl
    have hq : Lib.hasPrefix (It.body (.i o a)).data.toList indentT.data.toList = true := by
      show Lib.hasPrefix (indentT ++ insText o a).data.toList indentT.data.toList = true
      rw [data_app]
      exact hasPrefix_app _ _
    have hc : cutOff (It.body (.i o a)) indentT = insText o a := cutOff_app _ _
    obtain ⟨x1, x2, x3, x4⟩ := hx
    rcases h with ⟨h, -⟩ | ⟨-, -, h⟩ | ⟨-, h, -⟩
    · rw [hp] at h; cases h
    · rw [hc] at h
      obtain ⟨ws, hW, hB, -, hF⟩ := h
      have hws : ws = cutsB 32 (insText o a) := hW.same (seen_ascii (ins_seen o a))
      have hS := says_ins x1 x2 x3 x4
      rw [← hws] at hS
      rcases hF with ⟨op, av, fs0, f, cs0, c, c', he, rfl, rfl, hpl, k1, k2⟩ | ⟨-, h, -⟩
      · obtain ⟨q1, rfl⟩ := hpl _ _ hS
        obtain rfl : op = o := by omega
        obtain ⟨fp, fl, fc⟩ := f
        refine ⟨he, hB, a1, c1, a2, c2, cs0 ++ [c'], ?_, ?_⟩
        · rw [ap_ins]
          show LineAt w' R (.map (some K)) a1 ts.length c1 a2 (fs0 ++ [(⟨fp, fl, fc ++ [(op, av)]⟩ : Fn)]).length c2
          rw [List.length_append]
          rw [List.length_append] at k1
          exact k1
        · rw [ap_ins]
          exact k2
      · exact absurd hS (h (hi o a rfl) _ _)
    · rw [hq] at h; cases h
end Go.Proofs.YtpmkfdinkomaiaaGreatDoor
