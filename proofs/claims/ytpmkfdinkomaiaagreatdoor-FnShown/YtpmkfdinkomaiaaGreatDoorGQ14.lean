/-
  How far the reading of a text has come, if it is the text of an ok module.
  What was read, as lists of texts and functions in memory.
  Functions and modules that are marked, cell by cell.
-/
import Derived.Test.YtpmkfdinkomaiaaGreatDoorR15
import Derived.Test.YtpmkfdinkomaiaaGreatDoorGQ11
namespace Go.Proofs.YtpmkfdinkomaiaaGreatDoor
open Go.RowKit

theorem ap_some (st : List ByteArray × List Fn) (x : It) (h : st.2 ≠ []) : (ap st x).2 ≠ [] := by
  cases x with
  | t s => exact h
  | f p l => simp [ap]
  | i o a =>
    obtain ⟨ts, fs⟩ := st
    obtain ⟨fs0, f, rfl⟩ : ∃ fs0 f, fs = fs0 ++ [f] := ⟨fs.dropLast, fs.getLast h, (List.dropLast_concat_getLast h).symm⟩
    obtain ⟨p, l, c⟩ := f
    rw [ap_ins]
    simp
theorem fold_some (l : List It) : ∀ st : List ByteArray × List Fn, (st.2 ≠ [] ∨ ∃ p q, It.f p q ∈ l) → (l.foldl ap st).2 ≠ [] := by
  induction l with
  | nil =>
    intro st h
    rcases h with h | ⟨p, q, h⟩
    · exact h
    · simp at h
  | cons x l ih =>
    intro st h
    rw [List.foldl_cons]
    refine ih _ ?_
    rcases h with h | ⟨p, q, h⟩
    · exact .inl (ap_some st x h)
    · rcases List.mem_cons.1 h with rfl | h
      · exact .inl (by simp [ap])
      · exact .inr ⟨p, q, h⟩
theorem first_f (F : List Fn) (o a : Int) (l2 : List It) : ∀ (T : List ByteArray) (l : List It), items T F = l ++ .i o a :: l2 → ∃ p q, It.f p q ∈ l := by
  intro T
  induction T with
  | nil =>
    intro l h
    cases F with
    | nil => simp [items] at h
    | cons f F =>
      have e : items [] (f :: F) = .f f.params f.locals :: ((f.code.map fun x => It.i x.1 x.2) ++ F.flatMap fItems) := rfl
      rw [e] at h
      cases l with
      | nil => rw [List.nil_append] at h; injection h with h _; cases h
      | cons y l =>
        rw [List.cons_append] at h
        injection h with h _
        exact ⟨_, _, by rw [← h]; exact List.mem_cons_self ..⟩
  | cons t T ih =>
    intro l h
    have e : items (t :: T) F = .t t :: items T F := rfl
    rw [e] at h
    cases l with
    | nil => rw [List.nil_append] at h; injection h with h _; cases h
    | cons y l =>
      rw [List.cons_append] at h
      injection h with _ h
      obtain ⟨p, q, hm⟩ := ih l h
      exact ⟨p, q, List.mem_cons_of_mem _ hm⟩

/-- If the text is an ok module's, this much of it was read, and this is left. -/
def Come (text : ByteArray) (ts : List ByteArray) (fs : List Fn) (r : ByteArray) : Prop :=
  ∀ T F, modB T F = true → text = showB T F → ∃ l0 l1, items T F = l0 ++ l1 ∧ (ts, fs) = l0.foldl ap ([], []) ∧ r.data.toList = bytesOf l1
theorem Come.start (text : ByteArray) : Come text [] [] text := fun T F _ e => ⟨[], items T F, rfl, rfl, by rw [e]; exact showB_bytes T F⟩
theorem bytes_some (x : It) (l : List It) : bytesOf (x :: l) ≠ [] := by rw [bytes_cons, line_body]; simp
theorem Come.done {text : ByteArray} {ts : List ByteArray} {fs : List Fn} {r : ByteArray} (h : Come text ts fs r) (hr : r.data.toList = []) : ∀ T F, modB T F = true → text = showB T F → ts = T ∧ fs = F := by
  intro T F hT e
  obtain ⟨l0, l1, q1, q2, q3⟩ := h T F hT e
  cases l1 with
  | nil =>
    rw [List.append_nil] at q1
    rw [← q1, ap_all] at q2
    exact ⟨congrArg Prod.fst q2, congrArg Prod.snd q2⟩
  | cons x l1 => exact absurd (q3.symm.trans hr) (bytes_some x l1)
/-- The next line, if the text is an ok module's. -/
theorem Come.next {text : ByteArray} {ts : List ByteArray} {fs : List Fn} {r : ByteArray} (h : Come text ts fs r) (hr : r.data.toList ≠ []) : ∀ T F, modB T F = true → text = showB T F →
    ∃ x : It, x.ok ∧ (∀ o a, x = .i o a → fs ≠ []) ∧ (Lib.cut r.data.toList [10]).1 = x.body.data.toList ∧ (Lib.cut r.data.toList [10]).2.2 = true ∧ ∃ l0 l1, items T F = l0 ++ l1 ∧ ap (ts, fs) x = l0.foldl ap ([], []) ∧ (Lib.cut r.data.toList [10]).2.1 = bytesOf l1 := by
  intro T F hT e
  obtain ⟨l0, l1, q1, q2, q3⟩ := h T F hT e
  cases l1 with
  | nil => exact absurd q3 hr
  | cons x l1 =>
    have hx : x.ok := items_ok hT x (by rw [q1]; simp)
    rw [q3, cut_line hx]
    refine ⟨x, hx, fun o a hi => ?_, rfl, rfl, l0 ++ [x], l1, by rw [q1]; simp, ?_, rfl⟩
    · subst hi
      obtain ⟨p, q, hm⟩ := first_f F o a l1 T l0 q1
      have := fold_some l0 ([], []) (.inr ⟨p, q, hm⟩)
      rw [← q2] at this
      exact this
    · rw [List.foldl_append, ← q2]
      rfl
end Go.Proofs.YtpmkfdinkomaiaaGreatDoor

namespace Go.Proofs.YtpmkfdinkomaiaaGreatDoor
open Go.RowKit

theorem own_cell {w : World} {base e size n c : Nat} {a : Option Addr} {xs : List Value} (h : w.ownsRow base e size (.slice a n c) n xs) (j : Nat) (hj : j < n * size) : ∃ g, a = some ⟨g, 0, none⟩ ∧ base ≤ g ∧ w.cell? ⟨g, j, none⟩ = xs[j]? := by
  rcases h.2 with ⟨-, hn⟩ | ⟨g, cap, cur, hv, hb, hh, -, -, hs, htake⟩
  · subst hn; simp at hj
  · cases hv
    refine ⟨g, rfl, hb, ?_⟩
    rw [block_cell hh, ← htake, List.getElem?_take_of_lt hj, Array.getElem?_toList]
theorem texts_at {w : World} {base c : Nat} {a : Option Addr} {ts : List ByteArray} (h : w.ownsRow base 9 1 (.slice a ts.length c) ts.length (ts.map .string)) : StrsAt w base a ts := by
  intro i hi
  obtain ⟨g, hg, hb, hc⟩ := own_cell h i (by omega)
  exact ⟨g, 0, hg, hb, by rw [Nat.zero_add, hc]; simp [hi]⟩
theorem codeVals_at (xs : List (Int × Int)) : ∀ i (h : i < xs.length), (codeVals xs)[i * 2]? = some (.int .i64 xs[i].1) ∧ (codeVals xs)[i * 2 + 1]? = some (.int .i64 xs[i].2) := by
  induction xs with
  | nil => intro i h; simp at h
  | cons x xs ih =>
    intro i h
    have e : codeVals (x :: xs) = .int .i64 x.1 :: .int .i64 x.2 :: codeVals xs := by simp [codeVals]
    rw [e]
    cases i with
    | zero => exact ⟨rfl, rfl⟩
    | succ i =>
      have := ih i (by simpa using h)
      rw [show (i + 1) * 2 = i * 2 + 1 + 1 by omega]
      simpa using this
theorem code_at {w : World} {base c : Nat} {a : Option Addr} {xs : List (Int × Int)} (h : w.ownsRow base 51 2 (.slice a xs.length c) xs.length (codeVals xs)) : CodeAt w base a xs := by
  intro i hi
  obtain ⟨g, hg, hb, h1⟩ := own_cell h (i * 2) (by omega)
  obtain ⟨g', hg', -, h2⟩ := own_cell h (i * 2 + 1) (by omega)
  rw [hg] at hg'
  cases hg'
  have hv := codeVals_at xs i hi
  exact ⟨g, 0, hg, hb, by rw [Nat.zero_add, h1, hv.1], by rw [show 0 + i * 2 + 1 = i * 2 + 1 by omega, h2, hv.2]⟩
theorem fnVals_at : ∀ (fs : List Fn) (cs : List (Option Addr × Nat)), fs.length = cs.length → ∀ i (h : i < fs.length) (h' : i < cs.length), (fnVals fs cs)[i * 3]? = some (.int .i64 fs[i].params) ∧ (fnVals fs cs)[i * 3 + 1]? = some (.int .i64 fs[i].locals) ∧ (fnVals fs cs)[i * 3 + 2]? = some (.slice cs[i].1 fs[i].code.length cs[i].2) := by
  intro fs
  induction fs with
  | nil => intro cs _ i h; simp at h
  | cons f fs ih =>
    intro cs hl i h h'
    cases cs with
    | nil => simp at hl
    | cons c cs =>
      have e : fnVals (f :: fs) (c :: cs) = .int .i64 f.params :: .int .i64 f.locals :: .slice c.1 f.code.length c.2 :: fnVals fs cs := by simp [fnVals]
      rw [e]
      cases i with
      | zero => exact ⟨rfl, rfl, rfl⟩
      | succ i =>
        have := ih cs (by simpa using hl) i (by simpa using h) (by simpa using h')
        rw [show (i + 1) * 3 = i * 3 + 1 + 1 + 1 by omega]
        simpa using this
theorem ModOwn.fns {w : World} {base c1 c2 : Nat} {a1 a2 : Option Addr} {ts : List ByteArray} {fs : List Fn} {cs : List (Option Addr × Nat)} (h : ModOwn w base a1 c1 a2 c2 ts fs cs) : FnsAt w base a2 fs := by
  intro i hi
  have hi' : i < cs.length := by rw [← h.codes.len]; exact hi
  have hv := fnVals_at fs cs h.codes.len i hi hi'
  obtain ⟨g, hg, hb, h1⟩ := own_cell h.funcs (i * 3) (by omega)
  obtain ⟨g', hg', -, h2⟩ := own_cell h.funcs (i * 3 + 1) (by omega)
  obtain ⟨g'', hg'', -, h3⟩ := own_cell h.funcs (i * 3 + 2) (by omega)
  rw [hg] at hg' hg''
  cases hg'
  cases hg''
  exact ⟨g, 0, cs[i].1, cs[i].2, hg, hb, by rw [Nat.zero_add, h1, hv.1], by rw [show 0 + i * 3 + 1 = i * 3 + 1 by omega, h2, hv.2.1], by rw [show 0 + i * 3 + 2 = i * 3 + 2 by omega, h3, hv.2.2], code_at (h.codes.own i hi hi')⟩
theorem ModOwn.strs {w : World} {base c1 c2 : Nat} {a1 a2 : Option Addr} {ts : List ByteArray} {fs : List Fn} {cs : List (Option Addr × Nat)} (h : ModOwn w base a1 c1 a2 c2 ts fs cs) : StrsAt w base a1 ts := texts_at h.texts

end Go.Proofs.YtpmkfdinkomaiaaGreatDoor

namespace Go.Proofs.YtpmkfdinkomaiaaGreatDoor
open Go.RowKit

/-- The number behind the marks of these functions. -/
def endF (k : Nat) (fs : List Fn) : Nat := fs.foldl (fun k f => k + 2 + 2 * f.code.length) k
def mFns (k0 : Nat) (fs : List Fn) : List Fn := (List.range fs.length).map fun i => ⟨(endF k0 (fs.take i) : Nat), ((endF k0 (fs.take i) + 1 : Nat) : Int), mCode (endF k0 (fs.take i) + 2) ((fs[i]?.map fun f => f.code.length).getD 0)⟩
theorem mFns_len (k0 : Nat) (fs : List Fn) : (mFns k0 fs).length = fs.length := by simp [mFns]
theorem mCode_len (k n : Nat) : (mCode k n).length = n := by simp [mCode]
theorem endF_succ {k0 i : Nat} {fs : List Fn} (h : i < fs.length) : endF k0 (fs.take (i + 1)) = endF k0 (fs.take i) + 2 + 2 * fs[i].code.length := by
  unfold endF
  rw [List.take_succ_eq_append_getElem h, List.foldl_append]
  rfl
theorem endF_all (k0 : Nat) (fs : List Fn) : endF k0 (fs.take fs.length) = endF k0 fs := by rw [List.take_of_length_le (Nat.le_refl _)]
theorem endF_le {k0 : Nat} {fs : List Fn} (hc : ∀ f ∈ fs, f.code.length ≤ 1048576) : ∀ i, i ≤ fs.length → endF k0 (fs.take i) ≤ k0 + i * 3000000 := by
  intro i
  induction i with
  | zero => intro _; simp [endF]
  | succ i ih =>
    intro hi
    have h1 := ih (by omega)
    rw [endF_succ (by omega)]
    have := hc fs[i] (List.getElem_mem (by omega))
    omega
theorem mFns_at {k0 i : Nat} {fs : List Fn} (h : i < fs.length) : (mFns k0 fs)[i]? = some ⟨(endF k0 (fs.take i) : Nat), ((endF k0 (fs.take i) + 1 : Nat) : Int), mCode (endF k0 (fs.take i) + 2) fs[i].code.length⟩ := by
  simp [mFns, h]

theorem fnVals_set (gs : List Fn) (cs : List (Option Addr × Nat)) (hl : gs.length = cs.length) (i : Nat) (p l : Int) (h : i < gs.length) : ((fnVals gs cs).set (i * 3) (.int .i64 p)).set (i * 3 + 1) (.int .i64 l) = fnVals (gs.set i ⟨p, l, gs[i].code⟩) cs := by
  induction gs generalizing i cs with
  | nil => simp at h
  | cons f gs ih =>
    cases cs with
    | nil => simp at hl
    | cons c cs =>
      have e : ∀ y ys, fnVals (y :: ys) (c :: cs) = .int .i64 y.params :: .int .i64 y.locals :: .slice c.1 y.code.length c.2 :: fnVals ys cs := fun y ys => by simp [fnVals]
      cases i with
      | zero => simp [e]
      | succ i =>
        rw [e, show (i + 1) * 3 = i * 3 + 1 + 1 + 1 by omega]
        simp only [List.set_cons_succ, List.getElem_cons_succ]
        rw [ih cs (by simpa using hl) i (by simpa using h), e]
theorem fnVals_code (gs : List Fn) (cs : List (Option Addr × Nat)) (i : Nat) (h : i < gs.length) (ys : List (Int × Int)) (hy : ys.length = gs[i].code.length) : fnVals (gs.set i ⟨gs[i].params, gs[i].locals, ys⟩) cs = fnVals gs cs := by
  induction gs generalizing i cs with
  | nil => simp at h
  | cons f gs ih =>
    cases cs with
    | nil => simp [fnVals]
    | cons c cs =>
      have e : ∀ y ys, fnVals (y :: ys) (c :: cs) = .int .i64 y.params :: .int .i64 y.locals :: .slice c.1 y.code.length c.2 :: fnVals ys cs := fun y ys => by simp [fnVals]
      cases i with
      | zero =>
        simp only [List.getElem_cons_zero] at hy
        simp [e, hy]
      | succ i =>
        simp only [List.getElem_cons_succ] at hy
        simp only [List.set_cons_succ, List.getElem_cons_succ]
        rw [e, e, ih cs i (by simpa using h) hy]

theorem CodesOwn.nums {w : World} {base : Nat} {gs : List Fn} {cs : List (Option Addr × Nat)} (h : CodesOwn w base gs cs) (i : Nat) (hi : i < gs.length) (p l : Int) : CodesOwn w base (gs.set i ⟨p, l, gs[i].code⟩) cs := by
  refine ⟨by simpa using h.len, fun j hj hj' => ?_, h.order⟩
  have hj0 : j < gs.length := by simpa using hj
  have e : (gs.set i ⟨p, l, gs[i].code⟩)[j].code = gs[j].code := by
    rw [List.getElem_set]
    split
    · rename_i e; subst e; rfl
    · rfl
  rw [e]
  exact h.own j hj0 hj'
/-- The code of one function is others. -/
theorem CodesOwn.put {w w' : World} {base : Nat} {gs : List Fn} {cs : List (Option Addr × Nat)} (h : CodesOwn w base gs cs) (i : Nat) (hi : i < gs.length) (hi' : i < cs.length) (ys : List (Int × Int)) (hy : ys.length = gs[i].code.length)
    (hrow : w'.ownsRow base 51 2 (.slice cs[i].1 gs[i].code.length cs[i].2) gs[i].code.length (codeVals ys)) (hg : w.grownBy w' (Value.slice cs[i].1 gs[i].code.length cs[i].2).ownBlock) :
    CodesOwn w' base (gs.set i ⟨gs[i].params, gs[i].locals, ys⟩) cs := by
  refine ⟨by simpa using h.len, fun j hj hj' => ?_, h.order⟩
  have hj0 : j < gs.length := by simpa using hj
  by_cases e : j = i
  · subst e
    have e1 : (gs.set j ⟨gs[j].params, gs[j].locals, ys⟩)[j].code = ys := by simp
    rw [e1, hy]
    exact hrow
  · have e1 : (gs.set i ⟨gs[i].params, gs[i].locals, ys⟩)[j].code = gs[j].code := by rw [List.getElem_set_ne (fun x => e x.symm)]
    rw [e1]
    have hold := h.own j hj0 hj'
    refine ⟨hold.1, ?_⟩
    rcases hold.2 with hn | ⟨g, cap, cur, hv, hb, hh, r⟩
    · exact .inl hn
    · refine .inr ⟨g, cap, cur, hv, hb, ?_, r⟩
      rw [hg.block g (lt_block hh) (fun hx => ?_)]
      · exact hh
      · have hjg : cs[j].1 = some ⟨g, 0, none⟩ := by
          simp only [Value.slice.injEq] at hv
          exact hv.1
        cases hc : cs[i].1 with
        | none => rw [hc] at hx; simp [Value.ownBlock] at hx
        | some A =>
          rw [hc] at hx
          simp only [Value.ownBlock, Option.some.injEq] at hx
          rcases (h.own i hi hi').2 with ⟨hv2, _⟩ | ⟨g2, _, _, hv2, _⟩
          · rw [hc] at hv2; cases hv2
          · have hig : cs[i].1 = some ⟨g2, 0, none⟩ := by
              simp only [Value.slice.injEq] at hv2
              exact hv2.1
            have e2 : g = g2 := by
              rw [hc] at hig
              cases hig
              exact hx
            rcases Nat.lt_or_gt_of_ne e with e | e
            · have := h.order j i e hi' g g2 hjg hig
              omega
            · have := h.order i j e hj' g2 g hig hjg
              omega

end Go.Proofs.YtpmkfdinkomaiaaGreatDoor
